/- Contracts of package rails; what a real number is to a record. -/
import Derived.Test.YtgpfimiodeogaaaRecN
import Derived.Test.YtgpfimiodeogaaaLeaf
namespace Go.Proofs.Ytgpfimiodeogaaa
open Go.RowKit Ieee
set_option linter.unusedVariables false

theorem and_one (n : Int) : bits .and .i64 n 1 = n % 2 := by
  have h1 : (BitVec.ofInt 64 1).toNat = 2 ^ 1 - 1 := by decide
  have key : (BitVec.ofInt 64 n &&& BitVec.ofInt 64 1).toNat = (n % ((2 ^ 64 : Nat) : Int)).toNat % 2 ^ 1 := by
    rw [BitVec.toNat_and, BitVec.toNat_ofInt, h1, Nat.and_two_pow_sub_one_eq_mod]
  show IntKind.i64.wrap ((BitVec.ofInt 64 n &&& BitVec.ofInt 64 1).toNat : Nat) = n % 2
  rw [key, IntKind.wrap_i64]
  omega
def eaB (a bad : Int) : Bool := decide (a ≤ 0) || (decide (4095 ≤ a) || decide (bad % 2 ≠ 0))
def raV (run a bad : Int) : Int := if eaB a bad = true then withV run 0 1099511627776 + 1 else 0
def faB (run bad : Int) : Bool := decide (bad ≠ 0) || decide (50 ≤ run)
theorem withR_bd (n : Int) : 0 ≤ withV n 0 1099511627776 ∧ withV n 0 1099511627776 ≤ 1099511627776 := by unfold withV; split <;> (try split) <;> (try split) <;> omega
theorem withR_1 {n : Int} (h1 : n < 0) : withV n 0 1099511627776 = 0 := by unfold withV; split <;> (try split) <;> (try split) <;> omega
theorem withR_2 {n : Int} (h1 : 0 ≤ n) (h2 : n ≤ 1099511627776) : withV n 0 1099511627776 = n := by unfold withV; split <;> (try split) <;> (try split) <;> omega
theorem withR_3 {n : Int} (h1 : 1099511627776 < n) : withV n 0 1099511627776 = 1099511627776 := by unfold withV; split <;> (try split) <;> (try split) <;> omega

theorem ra_ended (a bad : Int) (w : World) : Calls Try.prog 12 #[.int .i64 a, .int .i64 bad] w fun e w' => e = .returned (.bool (eaB a bad)) ∧ w = w' := by
  have h1 := and_one bad
  unfold eaB
  by_cases ha : a ≤ 0
  · rw [decide_eq_true ha, Bool.true_or]
    have t1 := decide_eq_true ha
    go_enter Try.func12, Try.ntmps12
    go_wp2
    all_goals go_ret
    all_goals exact ⟨rfl, rfl⟩
  · rw [decide_eq_false ha, Bool.false_or]
    have t1 := decide_eq_false ha
    by_cases hb : 4095 ≤ a
    · rw [decide_eq_true hb, Bool.true_or]
      have t2 := decide_eq_true hb
      go_enter Try.func12, Try.ntmps12
      go_wp2
      all_goals go_ret
      all_goals exact ⟨rfl, rfl⟩
    · rw [decide_eq_false hb, Bool.false_or]
      have t2 := decide_eq_false hb
      rcases (by omega : bad % 2 = 0 ∨ bad % 2 = 1) with h | h
      · rw [h] at h1 ⊢
        clear h
        go_enter Try.func12, Try.ntmps12
        go_wp2
        all_goals go_ret
        all_goals exact ⟨rfl, rfl⟩
      · rw [h] at h1 ⊢
        clear h
        go_enter Try.func12, Try.ntmps12
        go_wp2
        all_goals go_ret
        all_goals exact ⟨rfl, rfl⟩
theorem ra_step (run a bad : Int) (w : World) : Calls Try.prog 6 #[.int .i64 run, .int .i64 a, .int .i64 bad] w fun e w' => e = .returned (.int .i64 (raV run a bad)) ∧ w = w' := by
  have HE := Lib.hid (fun w => ra_ended a bad w)
  unfold raV
  cases he : eaB a bad
  · rw [he] at HE
    rw [if_neg (by simp)]
    clear he
    go_enter Try.func6, Try.ntmps6
    go_wp2_with (go_at_call 12; refine (HE.out _).mono ?_; rintro e w' ⟨rfl, rfl⟩)
    all_goals go_ret
    all_goals exact ⟨rfl, rfl⟩
  · rw [he] at HE
    rw [if_pos rfl]
    clear he
    rcases (by omega : run < 0 ∨ (0 ≤ run ∧ run ≤ 1099511627776) ∨ 1099511627776 < run) with h1 | ⟨h1, h2⟩ | h1
    · rw [withR_1 h1]
      go_enter Try.func6, Try.ntmps6
      go_wp2_with (go_at_call 12; refine (HE.out _).mono ?_; rintro e w' ⟨rfl, rfl⟩)
      all_goals go_ret
      all_goals exact ⟨ret_i (by omega), rfl⟩
    · rw [withR_2 h1 h2]
      go_enter Try.func6, Try.ntmps6
      go_wp2_with (go_at_call 12; refine (HE.out _).mono ?_; rintro e w' ⟨rfl, rfl⟩)
      all_goals go_ret
      all_goals exact ⟨ret_i (by omega), rfl⟩
    · rw [withR_3 h1]
      go_enter Try.func6, Try.ntmps6
      go_wp2_with (go_at_call 12; refine (HE.out _).mono ?_; rintro e w' ⟨rfl, rfl⟩)
      all_goals go_ret
      all_goals exact ⟨ret_i (by omega), rfl⟩
theorem ra_fault (run bad : Int) (w : World) : Calls Try.prog 8 #[.int .i64 run, .int .i64 bad] w fun e w' => e = .returned (.bool (faB run bad)) ∧ w = w' := by
  unfold faB
  by_cases hb : bad = 0
  · subst hb
    go_enter Try.func8, Try.ntmps8
    go_wp2
    all_goals go_ret
    all_goals exact ⟨ret_b (by simp), rfl⟩
  · have t1 : (bad != 0) = true := by simpa using hb
    rw [decide_eq_true hb, Bool.true_or]
    go_enter Try.func8, Try.ntmps8
    go_wp2
    all_goals go_ret
    all_goals exact ⟨rfl, rfl⟩

theorem law21_awake (w : World) : Calls Try.prog 4 #[] w fun e w' => e = .returned (.bool true) ∧ w = w' := by
  have e1 : raV 7 0 0 = 8 := by decide +kernel
  have e2 : raV 7 4095 0 = 8 := by decide +kernel
  have e3 : raV 7 100 0 = 0 := by decide +kernel
  have e4 : raV 7 100 1 = 8 := by decide +kernel
  have e5 : faB 50 0 = true := by decide +kernel
  have e6 : faB 49 0 = false := by decide +kernel
  have e7 : faB 0 16 = true := by decide +kernel
  go_enter Try.func4, Try.ntmps4
  go_wp2_with (first
    | (go_at_call 6; refine (ra_step _ _ _ _).mono ?_; rintro e w' ⟨rfl, rfl⟩)
    | (go_at_call 8; refine (ra_fault _ _ _).mono ?_; rintro e w' ⟨rfl, rfl⟩))
  all_goals go_ret
  all_goals exact ⟨rfl, rfl⟩

/-! ### What a light is. -/
def geF (a b : Nat) : Bool := ltF b a || eqF a b
theorem o_ge (a b : Nat) : (ltF b a || eqF a b) = geF a b := rfl
theorem f4095 : floatOfInt .f64 4095 = 4661223415305207808 := by decide +kernel
theorem f1 : floatOfInt .f64 1 = 4607182418800017408 := by decide +kernel
/-- a light that is wild, at its end, or between. -/
def Light (x : Nat) : Prop :=
  ((kdV x == 1) = true ∧ tkV x 0 4095 = 0 ∧ tkB x 0 4095 = true) ∨
  ((kdV x == 1) = false ∧ ltF x 0 = true ∧ tkV x 0 4095 = 0 ∧ tkB x 0 4095 = true) ∨
  ((kdV x == 1) = false ∧ ltF x 0 = false ∧ ltF 4661223415305207808 x = true ∧ tkV x 0 4095 = 4095 ∧ tkB x 0 4095 = true) ∨
  ((kdV x == 1) = false ∧ ltF x 0 = false ∧ ltF 4661223415305207808 x = false ∧ geF x 4607182418800017408 = false ∧ tkV x 0 4095 = 0 ∧ tkB x 0 4095 = false) ∨
  ((kdV x == 1) = false ∧ ltF x 0 = false ∧ ltF 4661223415305207808 x = false ∧ geF x 4607182418800017408 = true ∧ ltF x 4661223415305207808 = false ∧ tkV x 0 4095 = 4095 ∧ tkB x 0 4095 = false) ∨
  (∃ a, (kdV x == 1) = false ∧ ltF x 0 = false ∧ ltF 4661223415305207808 x = false ∧ geF x 4607182418800017408 = true ∧ ltF x 4661223415305207808 = true ∧ 1 ≤ a ∧ a ≤ 4094 ∧ tkV x 0 4095 = a ∧ tkB x 0 4095 = false)
theorem light_is (x : Nat) : Light x := by
  unfold Light
  have hs := SZ
  obtain ⟨v1, _, n1⟩ := ofInt_V (n := 4095) (by omega) (by omega)
  obtain ⟨v2, _, n2⟩ := ofInt_V (n := 1) (by omega) (by omega)
  rw [f4095] at v1 n1
  rw [f1, Int.one_mul] at v2
  rw [f1] at n2
  by_cases hn : nanB x = true
  · refine .inl ⟨?_, tk_nan hn⟩
    unfold kdV; rw [if_pos hn]; rfl
  · have hn : nanB x = false := by simpa using hn
    have hk : (kdV x == 1) = false := by
      unfold kdV
      rw [hn]
      simp only [Bool.false_eq_true, if_false]
      split
      · split <;> rfl
      · split
        · split <;> rfl
        · rfl
    have l0 : ltF x 0 = decide (V x < 0) := by unfold ltF; rw [hn, nan_zero, V_zero]; rfl
    have l1 : ltF 4661223415305207808 x = decide (4095 * (S : Int) < V x) := by unfold ltF; rw [hn, n1, v1]; rfl
    have l2 : ltF x 4661223415305207808 = decide (V x < 4095 * (S : Int)) := by unfold ltF; rw [hn, n1, v1]; rfl
    have l3 : geF x 4607182418800017408 = decide ((S : Int) ≤ V x) := by
      unfold geF ltF eqF
      rw [hn, n2, v2, Bool.eq_iff_iff]
      simp; omega
    have hh : hiV 0 4095 = 4095 := hi0 (by omega) (by omega)
    by_cases c1 : V x < 0
    · refine .inr (.inl ⟨hk, by rw [l0]; exact decide_eq_true c1, ?_, ?_⟩)
      · unfold tkV; rw [hn, cl0, Int.zero_mul]; simp [c1]
      · unfold tkB; rw [hn, cl0, Int.zero_mul]; simp [c1]
    · by_cases c2 : 4095 * (S : Int) < V x
      · refine .inr (.inr (.inl ⟨hk, by rw [l0]; exact decide_eq_false c1, by rw [l1]; exact decide_eq_true c2, ?_, ?_⟩))
        · unfold tkV; rw [hn, cl0, hh, Int.zero_mul]; simp [c1, c2]
        · unfold tkB; rw [hn, cl0, hh, Int.zero_mul]; simp [c1, c2]
      · by_cases c3 : (S : Int) ≤ V x
        · by_cases c4 : V x < 4095 * (S : Int)
          · obtain ⟨a, ha⟩ : ∃ a, V x / (S : Int) = a := ⟨_, rfl⟩
            have a1 : 1 ≤ a := by rw [← ha]; exact (Int.le_ediv_iff_mul_le hs).2 (by omega)
            have a2 : a < 4095 := by rw [← ha]; exact (Int.ediv_lt_iff_lt_mul hs).2 c4
            have e1 : a * (S : Int) ≤ V x := by rw [← ha]; exact Int.ediv_mul_le _ (by omega)
            have e2 : V x < (a + 1) * (S : Int) := by rw [← ha]; exact Int.lt_ediv_add_one_mul_self _ hs
            refine .inr (.inr (.inr (.inr (.inr ⟨a, hk, by rw [l0]; exact decide_eq_false c1, by rw [l1]; exact decide_eq_false c2, by rw [l3]; exact decide_eq_true c3, by rw [l2]; exact decide_eq_true c4, a1, by omega, ?_⟩))))
            exact tk_at (by omega) (by omega) (by omega) hn e1 e2 (by omega)
          · refine .inr (.inr (.inr (.inr (.inl ⟨hk, by rw [l0]; exact decide_eq_false c1, by rw [l1]; exact decide_eq_false c2, by rw [l3]; exact decide_eq_true c3, by rw [l2]; exact decide_eq_false c4, ?_⟩))))
            exact tk_at (n := 4095) (by omega) (by omega) (by omega) hn (by omega) (by omega) (by omega)
        · refine .inr (.inr (.inr (.inl ⟨hk, by rw [l0]; exact decide_eq_false c1, by rw [l1]; exact decide_eq_false c2, by rw [l3]; exact decide_eq_false c3, ?_⟩)))
          exact tk_at (n := 0) (by omega) (by omega) (by omega) hn (by omega) (by omega) (by omega)

/-- What a real number at place j of a row is. -/
theorem real_at {W wr : World} {A : Option Addr} {n : Nat} {rs : List (List Value)} (h : Rows [.float .f64] W A n rs) (hA : Below W.heap.size W wr) {j : Nat} (hj : j < n) :
    ∃ b off x, A = some ⟨b, off, Option.none⟩ ∧ b < wr.heap.size ∧ wr.cell? ⟨b, off + j, Option.none⟩ = some (.float .f64 x) ∧ x < 18446744073709551616 := by
  obtain ⟨b, off, e, hbs, hc⟩ := h.2.2 (by omega)
  obtain ⟨_, hk⟩ := h.2.1 j hj
  obtain ⟨x, hx, wx⟩ := hk 0 (.float .f64) rfl
  refine ⟨b, off, x, e, Nat.lt_of_lt_of_le hbs hA.size, (hA.cell (p := ⟨b, off + j, Option.none⟩) hbs).trans ?_, by simpa [Lit.wf] using wx⟩
  have := hc j hj 0 (by simp)
  rw [hx] at this
  simpa using this
/-- What is taken of a record of which the light alone is told. -/
theorem take_light (x : Nat) (w : World) : Calls Try.prog 5 #[.agg #[.float .f64 x, .float .f64 0, .float .f64 0, .float .f64 0, .bool false, .int .i64 0, .bool false]] w fun e w' =>
    e = .returned (.agg #[.int .i64 (tkV x 0 4095), .int .i64 0, .int .i64 0, .int .i64 0, .bool false, .int .i64 0, .bool false, .int .i64 (mkV (tkB x 0 4095) 1)]) ∧ Below w.heap.size w w' := by
  have b2 := tk_const (x := 0) (n := 0) (hi := 180) (by omega) (by omega) (by omega) (by decide +kernel) (by decide +kernel) (by decide +kernel) (by decide +kernel)
  have b3 := tk_const (x := 0) (n := 0) (hi := 6000) (by omega) (by omega) (by omega) (by decide +kernel) (by decide +kernel) (by decide +kernel) (by decide +kernel)
  have b4 := tk_const (x := 0) (n := 0) (hi := 300) (by omega) (by omega) (by omega) (by decide +kernel) (by decide +kernel) (by decide +kernel) (by decide +kernel)
  have h := rc_take x 0 0 0 false 0 false w
  rw [b2.1, b2.2, b3.1, b3.2, b4.1, b4.2, show kyV 0 = 0 from by decide, show (!upB 0 10) = false from by decide] at h
  have hb : ∀ q, badV q false false false false = mkV q 1 := fun q => by cases q <;> decide
  rw [hb] at h
  exact h
end Go.Proofs.Ytgpfimiodeogaaa
