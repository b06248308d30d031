/- The document's MulDiv: the quotient of the product, of whatever signs. -/
import Derived.Test.YtcofnffoaiiboaaQTimes
namespace Go.Proofs.Ytcofnffoaiiboaa
open Go.RowKit
set_option linter.unusedVariables false
set_option linter.unusedSimpArgs false

theorem clV_hi {n : Int} (h : 9007199254740992 < n) : clV n = 9007199254740992 ∧ clB n = true := ⟨clV_pos (by omega) (by omega), clB_out (by omega)⟩
theorem clV_lo {n : Int} (h : n < -9007199254740992) : clV n = -9007199254740992 ∧ clB n = true := ⟨clV_neg (by omega) (by omega), clB_out (by omega)⟩
theorem flo_pos_gt {x d k : Int} (d0 : 0 < d) (h : k * d < x) : k ≤ flo x d := by
  unfold flo; rw [if_pos d0]; exact Int.le_ediv_of_mul_le d0 (by omega)
theorem flo_neg_lt {x d k : Int} (d0 : 0 < d) (h : k * d < x) : flo (-x) d < -k := by
  unfold flo; rw [if_pos d0]; exact Int.ediv_lt_of_lt_mul d0 (by rw [Int.neg_mul]; omega)

theorem Told.plus {m n d q r : Int} (t : Told m n d q r) (d0 : 0 < d) : clV q = clV (flo (m * n) d) ∧ clB q = clB (flo (m * n) d) := by
  by_cases h : q ≤ 36028797018963968
  · have e := t.just h
    rw [flo_unique e (fun _ => ⟨t.r0, t.r1⟩) (fun h => absurd h (by omega)) (by omega)]
    exact ⟨rfl, rfl⟩
  · have a := flo_pos_gt d0 (t.big (by omega))
    rw [(clV_hi (n := q) (by omega)).1, (clV_hi (n := q) (by omega)).2, (clV_hi (n := flo (m * n) d) (by omega)).1, (clV_hi (n := flo (m * n) d) (by omega)).2]
    exact ⟨rfl, rfl⟩
theorem Told.minus {m n d q r s : Int} (t : Told m n d q r) (d0 : 0 < d) (hs : (r = 0 ∧ s = -q) ∨ (0 < r ∧ s = -q - 1)) : clV s = clV (flo (-(m * n)) d) ∧ clB s = clB (flo (-(m * n)) d) := by
  by_cases h : q ≤ 36028797018963968
  · have e := t.just h
    have r1 := t.r1
    have : flo (-(m * n)) d = s := by
      rcases hs with ⟨h1, rfl⟩ | ⟨h1, rfl⟩
      · exact flo_unique (m := 0) (by rw [Int.neg_mul]; omega) (fun _ => ⟨by omega, by omega⟩) (fun h => absurd h (by omega)) (by omega)
      · exact flo_unique (m := d - r) (by rw [Int.sub_mul, Int.neg_mul]; omega) (fun _ => ⟨by omega, by omega⟩) (fun h => absurd h (by omega)) (by omega)
    rw [this]
    exact ⟨rfl, rfl⟩
  · have a := flo_neg_lt d0 (t.big (by omega))
    rw [(clV_lo (n := s) (by omega)).1, (clV_lo (n := s) (by omega)).2, (clV_lo (n := flo (-(m * n)) d) (by omega)).1, (clV_lo (n := flo (-(m * n)) d) (by omega)).2]
    exact ⟨rfl, rfl⟩
theorem abs_same {x y : Int} (h : x < 0 ↔ y < 0) : (x.natAbs : Int) * (y.natAbs : Int) = x * y := by
  by_cases g : x < 0
  · have := h.1 g
    rw [show (x.natAbs : Int) = -x by omega, show (y.natAbs : Int) = -y by omega, Int.neg_mul_neg]
  · have : ¬ y < 0 := fun k => g (h.2 k)
    rw [show (x.natAbs : Int) = x by omega, show (y.natAbs : Int) = y by omega]
theorem abs_other {x y : Int} (h : ¬ (x < 0 ↔ y < 0)) : -((x.natAbs : Int) * (y.natAbs : Int)) = x * y := by
  by_cases g : x < 0
  · have : ¬ y < 0 := fun k => h (iff_of_true g k)
    rw [show (x.natAbs : Int) = -x by omega, show (y.natAbs : Int) = y by omega, Int.neg_mul, Int.neg_neg]
  · have : y < 0 := by
      by_cases k : y < 0
      · exact k
      · exact absurd (iff_of_false g k) h
    rw [show (x.natAbs : Int) = x by omega, show (y.natAbs : Int) = -y by omega, Int.mul_neg, Int.neg_neg]
/-- The sign of the divisor goes over to a factor. -/
theorem over_sign (x y : Int) {z : Int} (h : z ≠ 0) : flo (x * -y) (-z) = flo (x * y) z := by rw [Int.mul_neg]; exact flo_neg h

theorem mq_zero {a b c : Int} (h : clV c = 0) : mqV a b c = 0 ∧ mqE a b c = 2 := by simp [mqV, mqE, h]
theorem mq_in {a b c s : Int} (h : ¬ clV c = 0) (e : clV s = clV (flo (clV a * clV b) (clV c)) ∧ clB s = clB (flo (clV a * clV b) (clV c))) : mqV a b c = clV s ∧ mqE a b c = if clB s = true then 3 else 0 := by
  unfold mqV mqE; rw [if_neg h, if_neg h, e.1, e.2]; exact ⟨rfl, rfl⟩

theorem ref2_muldiv (a b c : Int) (w : World) :
    Calls Try.prog 83 #[.int .i64 a, .int .i64 b, .int .i64 c] w fun e w' => e = .returned (.tuple #[.int .i64 (mqV a b c), .int .i64 (mqE a b c)]) ∧ ∃ k, w' = w.drewN k := by
  have ⟨ha0, ha1⟩ := clV_bd a
  have ⟨hb0, hb1⟩ := clV_bd b
  have ⟨hc0, hc1⟩ := clV_bd c
  by_cases hz : clV c = 0
  · have ⟨HV, HE⟩ := mq_zero (a := a) (b := b) hz
    have HV' := Lib.hid HV
    have HE' := Lib.hid HE
    clear HV HE
    go_enter Try.func83, Try.ntmps83
    go_wp2_with (first
      | (first
    | (go_at_call 78; refine (ref_clamp _ _).mono ?_; rintro e w' ⟨rfl, rfl⟩))
      | (go_at_call 121; refine (ref2_both_pos _ _ (by omega) _).mono ?_; rintro e w' ⟨rfl, rfl⟩))
    go_ret2
    exact ⟨ret_ii' HV'.out.symm HE'.out.symm, 0, rfl⟩
  · obtain ⟨Y, D, hY, hD, hF, hd0, hd1, hy0, hy1⟩ : ∃ Y D : Int, (Y = if clV c < 0 then -clV b else clV b) ∧ (D = if clV c < 0 then -clV c else clV c) ∧ flo (clV a * Y) D = flo (clV a * clV b) (clV c) ∧ 0 < D ∧ D ≤ 9007199254740992 ∧ -9007199254740992 ≤ Y ∧ Y ≤ 9007199254740992 := by
      by_cases hn : clV c < 0
      · exact ⟨-clV b, -clV c, by rw [if_pos hn], by rw [if_pos hn], over_sign _ _ hz, by omega, by omega, by omega, by omega⟩
      · exact ⟨clV b, clV c, by rw [if_neg hn], by rw [if_neg hn], rfl, by omega, by omega, by omega, by omega⟩
    have hboth : ∀ w : World, Calls Try.prog 121 #[.int .i64 b, .int .i64 c] w fun e w' => e = .returned (.tuple #[.int .i64 Y, .int .i64 D]) ∧ w = w' := by
      intro w
      by_cases hn : clV c < 0
      · rw [hY, hD, if_pos hn, if_pos hn]; exact ref2_both_neg b c hn w
      · rw [hY, hD, if_neg hn, if_neg hn]; exact ref2_both_pos b c hn w
    have HF := Lib.hid hF
    have HB := Lib.hid hboth
    have hzD : (D == 0) = false := by simpa using (show D ≠ 0 by omega)
    clear hboth hF hY hD
    by_cases hx : clV a < 0 <;> by_cases hy : Y < 0
    · have s1 : decide (clV a < 0) = true := by simpa using hx
      have s2 : decide (Y < 0) = true := by simpa using hy
      have HP := Lib.hid (show -clV a * -Y = clV a * Y by rw [Int.neg_mul_neg])
      go_enter Try.func83, Try.ntmps83
      go_wp2_with (first
        | (first
    | (go_at_call 78; refine (ref_clamp _ _).mono ?_; rintro e w' ⟨rfl, rfl⟩))
        | (go_at_call 121; refine (HB.out _).mono ?_; rintro e w' ⟨rfl, rfl⟩)
        | (go_at_call 122; refine (ref2_times _ _ _ (by omega) (by omega) (by omega) (by omega) (by omega) (by omega) _).mono ?_; rintro e w' ⟨q, r, rfl, ht, k, rfl⟩; have q0 := ht.q0; have q1 := ht.q1; have r0 := ht.r0; have r1 := ht.r1; have HT := Lib.hid ht; clear ht))
      all_goals
        go_ret2
        have e := HT.out.plus hd0
        rw [HP.out, HF.out] at e
        have ⟨e1, e2⟩ := mq_in (a := a) (b := b) hz e
        exact ⟨ret_ii' e1.symm (by rw [e2]; simp [*]), _, rfl⟩
    · have s1 : decide (clV a < 0) = true := by simpa using hx
      have s2 : decide (Y < 0) = false := by simpa using hy
      have HP := Lib.hid (show -(-clV a * Y) = clV a * Y by rw [Int.neg_mul, Int.neg_neg])
      go_enter Try.func83, Try.ntmps83
      go_wp2_with (first
        | (first
    | (go_at_call 78; refine (ref_clamp _ _).mono ?_; rintro e w' ⟨rfl, rfl⟩))
        | (go_at_call 121; refine (HB.out _).mono ?_; rintro e w' ⟨rfl, rfl⟩)
        | (go_at_call 122; refine (ref2_times _ _ _ (by omega) (by omega) (by omega) (by omega) (by omega) (by omega) _).mono ?_; rintro e w' ⟨q, r, rfl, ht, k, rfl⟩; have q0 := ht.q0; have q1 := ht.q1; have r0 := ht.r0; have r1 := ht.r1; have HT := Lib.hid ht; clear ht))
      all_goals
        go_ret2
        first | have e := HT.out.minus (s := -q) hd0 (by omega) | have e := HT.out.minus (s := -q - 1) hd0 (by omega)
        rw [HP.out, HF.out] at e
        have ⟨e1, e2⟩ := mq_in (a := a) (b := b) hz e
        exact ⟨ret_ii' e1.symm (by rw [e2]; simp [*]), _, rfl⟩
    · have s1 : decide (clV a < 0) = false := by simpa using hx
      have s2 : decide (Y < 0) = true := by simpa using hy
      have HP := Lib.hid (show -(clV a * -Y) = clV a * Y by rw [Int.mul_neg, Int.neg_neg])
      go_enter Try.func83, Try.ntmps83
      go_wp2_with (first
        | (first
    | (go_at_call 78; refine (ref_clamp _ _).mono ?_; rintro e w' ⟨rfl, rfl⟩))
        | (go_at_call 121; refine (HB.out _).mono ?_; rintro e w' ⟨rfl, rfl⟩)
        | (go_at_call 122; refine (ref2_times _ _ _ (by omega) (by omega) (by omega) (by omega) (by omega) (by omega) _).mono ?_; rintro e w' ⟨q, r, rfl, ht, k, rfl⟩; have q0 := ht.q0; have q1 := ht.q1; have r0 := ht.r0; have r1 := ht.r1; have HT := Lib.hid ht; clear ht))
      all_goals
        go_ret2
        first | have e := HT.out.minus (s := -q) hd0 (by omega) | have e := HT.out.minus (s := -q - 1) hd0 (by omega)
        rw [HP.out, HF.out] at e
        have ⟨e1, e2⟩ := mq_in (a := a) (b := b) hz e
        exact ⟨ret_ii' e1.symm (by rw [e2]; simp [*]), _, rfl⟩
    · have s1 : decide (clV a < 0) = false := by simpa using hx
      have s2 : decide (Y < 0) = false := by simpa using hy
      go_enter Try.func83, Try.ntmps83
      go_wp2_with (first
        | (first
    | (go_at_call 78; refine (ref_clamp _ _).mono ?_; rintro e w' ⟨rfl, rfl⟩))
        | (go_at_call 121; refine (HB.out _).mono ?_; rintro e w' ⟨rfl, rfl⟩)
        | (go_at_call 122; refine (ref2_times _ _ _ (by omega) (by omega) (by omega) (by omega) (by omega) (by omega) _).mono ?_; rintro e w' ⟨q, r, rfl, ht, k, rfl⟩; have q0 := ht.q0; have q1 := ht.q1; have r0 := ht.r0; have r1 := ht.r1; have HT := Lib.hid ht; clear ht))
      all_goals
        go_ret2
        have e := HT.out.plus hd0
        rw [HF.out] at e
        have ⟨e1, e2⟩ := mq_in (a := a) (b := b) hz e
        exact ⟨ret_ii' e1.symm (by rw [e2]; simp [*]), _, rfl⟩
end Go.Proofs.Ytcofnffoaiiboaa
