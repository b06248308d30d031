/- What ring and the document read off a list: the one that stands back, the greatest one, the sum; are two lists the same? -/
import Derived.Test.YtpkakoabopikhaaRing
import Derived.WalkLawsBesides
namespace Go.Proofs.Ytpkakoabopikhaa
open Go.RowKit
set_option linter.unusedVariables false

def backB (n : Nat) (k : Int) : Bool := decide (0 ≤ k ∧ k < (n : Int))
def backV (xs : List Int) (k : Int) : Int := if backB xs.length k = true then xs.getD (xs.length - 1 - k.toNat) 0 else 0
theorem Ints.at_ {w : World} {A : Option Addr} {n : Nat} {xs : List Int} (h : Ints w A n xs) {k : Nat} (hk : k < n) : ∃ b off, A = some ⟨b, off, none⟩ ∧ b < w.heap.size ∧ w.cell? ⟨b, off + k, none⟩ = some (.int .i64 (xs.getD k 0)) := by
  obtain ⟨b, off, e, hb, hc⟩ := h.2 (by omega)
  exact ⟨b, off, e, hb, hc k hk⟩

theorem ring_back (A : Option Addr) (n c : Nat) (xs : List Int) (k : Int) (w : World) (h : Ints w A n xs) (hn : n ≤ 9223372036854775807) (hk0 : -9223372036854775808 ≤ k) (hk1 : k ≤ 9223372036854775807) :
    Calls Try.prog 7 #[.slice A n c, .int .i64 k] w fun e w' => e = .returned (.tuple #[.int .i64 (backV xs k), .bool (backB n k)]) ∧ w = w' := by
  have hl := h.1
  by_cases h0 : k < 0
  · have e1 : backB n k = false := by unfold backB; simp; omega
    have e2 : backV xs k = 0 := by unfold backV; rw [hl, e1]; rfl
    rw [e1, e2]
    clear h hl
    go_enter Try.func7, Try.ntmps7
    go_wp2
    all_goals go_ret2
    all_goals exact ⟨rfl, rfl⟩
  · obtain ⟨j, rfl⟩ := Int.eq_ofNat_of_zero_le (show 0 ≤ k by omega)
    by_cases hj : j < n
    · have e1 : backB n j = true := by unfold backB; simp; omega
      have e2 : backV xs j = xs.getD (n - 1 - j) 0 := by unfold backV; rw [hl, e1]; rfl
      rw [e1, e2]
      obtain ⟨b, off, rfl, hb, hc⟩ := h.at_ (k := n - 1 - j) (by omega)
      have d : decide (n ≤ j) = false := by simpa using hj
      clear h hl
      generalize xs.getD (n - 1 - j) 0 = x at *
      go_enter Try.func7, Try.ntmps7
      go_wp2
      all_goals go_ret2
      all_goals exact ⟨rfl, rfl⟩
    · have e1 : backB n j = false := by unfold backB; simp; omega
      have e2 : backV xs j = 0 := by unfold backV; rw [hl, e1]; rfl
      have d : decide (n ≤ j) = true := by simpa using hj
      rw [e1, e2]
      clear h hl
      go_enter Try.func7, Try.ntmps7
      go_wp2
      all_goals go_ret2
      all_goals exact ⟨rfl, rfl⟩
theorem ref_back (A : Option Addr) (n c : Nat) (xs : List Int) (k : Int) (w : World) (h : Ints w A n xs) (hn : n ≤ 9223372036854775807) (hk0 : -9223372036854775808 ≤ k) (hk1 : k ≤ 9223372036854775807) :
    Calls Try.prog 8 #[.slice A n c, .int .i64 k] w fun e w' => e = .returned (.tuple #[.int .i64 (backV xs k), .bool (backB n k)]) ∧ w = w' := by
  have hl := h.1
  by_cases h0 : k < 0
  · have e1 : backB n k = false := by unfold backB; simp; omega
    have e2 : backV xs k = 0 := by unfold backV; rw [hl, e1]; rfl
    rw [e1, e2]
    clear h hl
    go_enter Try.func8, Try.ntmps8
    go_wp2
    all_goals go_ret2
    all_goals exact ⟨rfl, rfl⟩
  · obtain ⟨j, rfl⟩ := Int.eq_ofNat_of_zero_le (show 0 ≤ k by omega)
    by_cases hj : j < n
    · have e1 : backB n j = true := by unfold backB; simp; omega
      have e2 : backV xs j = xs.getD (n - 1 - j) 0 := by unfold backV; rw [hl, e1]; rfl
      rw [e1, e2]
      obtain ⟨b, off, rfl, hb, hc⟩ := h.at_ (k := n - 1 - j) (by omega)
      have d : decide (n ≤ j) = false := by simpa using hj
      clear h hl
      generalize xs.getD (n - 1 - j) 0 = x at *
      go_enter Try.func8, Try.ntmps8
      go_wp2
      all_goals go_ret2
      all_goals exact ⟨rfl, rfl⟩
    · have e1 : backB n j = false := by unfold backB; simp; omega
      have e2 : backV xs j = 0 := by unfold backV; rw [hl, e1]; rfl
      have d : decide (n ≤ j) = true := by simpa using hj
      rw [e1, e2]
      clear h hl
      go_enter Try.func8, Try.ntmps8
      go_wp2
      all_goals go_ret2
      all_goals exact ⟨rfl, rfl⟩

theorem ring_total (A : Option Addr) (n c : Nat) (xs : List Int) (w : World) (h : Ints w A n xs) (hn : n ≤ 9223372036854775807) :
    Calls Try.prog 11 #[.slice A n c] w fun e w' => e = .returned (.tuple #[.int .i64 (sumV xs), .bool (sumB xs)]) ∧ w = w' := by
  have H := Lib.hid h
  clear h
  go_enter Try.func11, Try.ntmps11
  go_wp2_with (go_at_call 19; refine (sat_sum A n c xs _ H.out hn).mono ?_; rintro e w' ⟨rfl, rfl⟩)
  all_goals go_ret2
  exact ⟨rfl, rfl⟩

theorem ref_total (A : Option Addr) (n c : Nat) (xs : List Int) (w : World) (h : Ints w A n xs) (hn : n ≤ 9223372036854775807) :
    Calls Try.prog 12 #[.slice A n c] w fun e w' => e = .returned (.tuple #[.int .i64 (sumV xs), .bool (sumB xs)]) ∧ w = w' := by
  obtain ⟨hl, hc⟩ := h
  have HC := Lib.hid hc
  have HL := Lib.hid hl
  clear hc hl
  go_enter Try.func12, Try.ntmps12
  go_wp2
  go_loop [4, 5, 11] (fun s b i => ∃ k : Nat, k ≤ n ∧ s = .int .i64 (sumV (xs.take k)) ∧ b = .bool (sumB (xs.take k)) ∧ i = .int .i64 k) (fun _ _ i => n - (intOf i).toNat)
  case atStart => exact ⟨0, Nat.zero_le _, rfl, rfl, rfl⟩
  case round =>
    obtain ⟨k, hk, rfl, rfl, rfl⟩ := hrel
    by_cases hlt : k < n
    · obtain ⟨b, off, rfl, _, hcell⟩ := HC.out (by omega)
      have hck := hcell k hlt
      have hcl := HL.out
      have e1 := sumV_step xs k (by omega)
      have e2 := sumB_step xs k (by omega)
      have E1 := Lib.hid e1
      have E2 := Lib.hid e2
      clear hcell hcl e1 e2
      generalize xs.getD k 0 = x at *
      go_wp2_with (go_at_call 20; refine (ref_add _ _ _).mono ?_; rintro e w' ⟨rfl, rfl⟩)
      all_goals
        go_round
        case rel => exact ⟨k + 1, by omega, by rw [E1.out], by rw [E2.out]; simp [*], by go_num⟩
        case measure => simp [intOf]; omega
    · obtain rfl : k = n := by omega
      have e3 : xs.take k = xs := List.take_of_length_le (by have := HL.out; omega)
      rw [e3]
      clear e3
      go_wp2
      go_ret2
      exact ⟨rfl, rfl⟩

/-- The greatest of a and the numbers behind it, one by one. -/
def mx (a : Int) (l : List Int) : Int := l.foldl (fun m x => if m < x then x else m) a
theorem mx_step (a : Int) (xs : List Int) (k : Nat) (hk : k < xs.length) : mx a (xs.take (k + 1)) = if mx a (xs.take k) < xs.getD k 0 then xs.getD k 0 else mx a (xs.take k) := by
  unfold mx
  rw [List.take_add_one, List.foldl_append]
  simp [List.getD, List.getElem?_eq_getElem hk]
def mostV (xs : List Int) : Int := mx (xs.getD 0 0) xs
def mostB (n : Nat) : Bool := decide (0 < n)

theorem slices_max (A : Option Addr) (n c : Nat) (xs : List Int) (w : World) (h : Ints w A n xs) (h0 : 0 < n) (hn : n ≤ 9223372036854775807) :
    Calls Try.prog 18 #[.slice A n c] w fun e w' => e = .returned (.int .i64 (mostV xs)) ∧ w = w' := by
  obtain ⟨b, off, rfl, _, hc0⟩ := h.at_ h0
  rw [Nat.add_zero] at hc0
  have HC := Lib.hid h
  have HL := Lib.hid h.1
  have S1 := Lib.hid (mx_step (xs.getD 0 0) xs 0 (by have := h.1; omega))
  clear h
  unfold mostV
  generalize xs.getD 0 0 = a at *
  have d1 : decide ((n : Int) < 1) = false := by simp; omega
  go_enter Try.func18, Try.ntmps18
  go_wp2
  go_loop [3, 4] (fun m i => ∃ k : Nat, 1 ≤ k ∧ k ≤ n ∧ m = .int .i64 (mx a (xs.take k)) ∧ i = .int .i64 k) (fun _ i => n - (intOf i).toNat)
  case atStart => exact ⟨1, Nat.le_refl _, h0, by rw [S1.out]; simp [mx], rfl⟩
  case round =>
    obtain ⟨k, hk1, hk, rfl, rfl⟩ := hrel
    by_cases hlt : k < n
    · obtain ⟨b', off', e', _, hck⟩ := HC.out.at_ hlt
      cases e'
      have E1 := Lib.hid (mx_step a xs k (by have := HL.out; omega))
      generalize xs.getD k 0 = x at *
      generalize mx a (xs.take k) = M at *
      go_wp2
      all_goals
        go_round
        case rel => exact ⟨k + 1, by omega, by omega, by rw [E1.out], by go_num⟩
        case measure => simp [intOf]; omega
    · obtain rfl : k = n := by omega
      have e3 : xs.take k = xs := List.take_of_length_le (by have := HL.out; omega)
      rw [e3]
      clear e3
      go_wp2
      go_ret
      exact ⟨rfl, rfl⟩

theorem ring_most (A : Option Addr) (n c : Nat) (xs : List Int) (w : World) (h : Ints w A n xs) (hn : n ≤ 9223372036854775807) :
    Calls Try.prog 9 #[.slice A n c] w fun e w' => e = .returned (.tuple #[.int .i64 (mostV xs), .bool (mostB n)]) ∧ w = w' := by
  by_cases h0 : n = 0
  · subst h0
    obtain rfl : xs = [] := List.eq_nil_of_length_eq_zero h.1
    rw [show mostV [] = 0 from rfl, show mostB 0 = false from rfl]
    clear h
    go_enter Try.func9, Try.ntmps9
    go_wp2
    all_goals go_ret2
    exact ⟨rfl, rfl⟩
  · have d : ((n : Int) == 0) = false := by simpa using h0
    have H := Lib.hid h
    rw [show mostB n = true by unfold mostB; simp; omega]
    clear h
    go_enter Try.func9, Try.ntmps9
    go_wp2_with (go_at_call 18; refine (slices_max A n c xs _ H.out (by omega) hn).mono ?_; rintro e w' ⟨rfl, rfl⟩)
    all_goals go_ret2
    exact ⟨rfl, rfl⟩

theorem ref_most (A : Option Addr) (n c : Nat) (xs : List Int) (w : World) (h : Ints w A n xs) (hn : n ≤ 9223372036854775807) :
    Calls Try.prog 10 #[.slice A n c] w fun e w' => e = .returned (.tuple #[.int .i64 (mostV xs), .bool (mostB n)]) ∧ w = w' := by
  by_cases h0 : n = 0
  · subst h0
    obtain rfl : xs = [] := List.eq_nil_of_length_eq_zero h.1
    rw [show mostV [] = 0 from rfl, show mostB 0 = false from rfl]
    clear h
    go_enter Try.func10, Try.ntmps10
    go_wp2
    all_goals go_ret2
    exact ⟨rfl, rfl⟩
  · have d : ((n : Int) == 0) = false := by simpa using h0
    obtain ⟨b, off, rfl, _, hc0⟩ := h.at_ (k := 0) (by omega)
    rw [Nat.add_zero] at hc0
    have HC := Lib.hid h
    have HL := Lib.hid h.1
    rw [show mostB n = true by unfold mostB; simp; omega]
    clear h
    unfold mostV
    generalize xs.getD 0 0 = a at *
    go_enter Try.func10, Try.ntmps10
    go_wp2
    go_loop [4, 14] (fun m i => ∃ k : Nat, k ≤ n ∧ m = .int .i64 (mx a (xs.take k)) ∧ i = .int .i64 k) (fun _ i => n - (intOf i).toNat)
    case atStart => exact ⟨0, by omega, rfl, rfl⟩
    case round =>
      obtain ⟨k, hk, rfl, rfl⟩ := hrel
      by_cases hlt : k < n
      · obtain ⟨b', off', e', _, hck⟩ := HC.out.at_ hlt
        cases e'
        have E1 := Lib.hid (mx_step a xs k (by have := HL.out; omega))
        generalize xs.getD k 0 = x at *
        generalize mx a (xs.take k) = M at *
        go_wp2
        all_goals
          go_round
          case rel => exact ⟨k + 1, by omega, by rw [E1.out], by go_num⟩
          case measure => simp [intOf]; omega
      · obtain rfl : k = n := by omega
        have e3 : xs.take k = xs := List.take_of_length_le (by have := HL.out; omega)
        rw [e3]
        clear e3
        go_wp2
        go_ret2
        exact ⟨rfl, rfl⟩

theorem ref_room (k : Int) (w : World) (h0 : -9223372036854775808 ≤ k) (h1 : k ≤ 9223372036854775807) :
    Calls Try.prog 23 #[.int .i64 k] w fun e w' => e = .returned (.int .i64 (roomN k)) ∧ w = w' := by
  have e : ((roomN k : Nat) : Int) = (if k < 0 then 0 else if 512 < k then 512 else k) := by unfold roomN cntV; split <;> (try split) <;> (try split) <;> omega
  rw [e]
  by_cases a : k < 0
  · rw [if_pos a]
    go_enter Try.func23, Try.ntmps23
    go_wp2
    all_goals go_ret
    all_goals exact ⟨rfl, rfl⟩
  · rw [if_neg a]
    by_cases b : 512 < k
    · rw [if_pos b]
      go_enter Try.func23, Try.ntmps23
      go_wp2
      all_goals go_ret
      all_goals exact ⟨rfl, rfl⟩
    · rw [if_neg b]
      go_enter Try.func23, Try.ntmps23
      go_wp2
      all_goals go_ret
      all_goals exact ⟨rfl, rfl⟩

def eqL (xs ys : List Int) : Bool := decide (xs = ys)
theorem eqL_refl (xs : List Int) : eqL xs xs = true := by simp [eqL]
theorem take_eq_step {xs ys : List Int} {k : Nat} (h : xs.take k = ys.take k) (hx : k < xs.length) (hy : k < ys.length) (e : xs.getD k 0 = ys.getD k 0) : xs.take (k + 1) = ys.take (k + 1) := by
  rw [List.take_add_one, List.take_add_one, h]
  simp only [List.getD, List.getElem?_eq_getElem hx, List.getElem?_eq_getElem hy, Option.getD_some] at e
  simp [List.getElem?_eq_getElem hx, List.getElem?_eq_getElem hy, e]

theorem law4_ints (A B : Option Addr) (n c m d : Nat) (xs ys : List Int) (w : World) (h : Ints w A n xs) (g : Ints w B m ys) (hn : n ≤ 9223372036854775807) (hm : m ≤ 9223372036854775807) :
    Calls Try.prog 13 #[.slice A n c, .slice B m d] w fun e w' => e = .returned (.bool (eqL xs ys)) ∧ ∃ t, w' = w.drewN t := by
  by_cases hl : n = m
  · subst hl
    have HA := Lib.hid h
    have HB := Lib.hid g
    have LA := Lib.hid h.1
    have LB := Lib.hid g.1
    clear h g
    obtain ⟨E, hE⟩ : ∃ E, eqL xs ys = E := ⟨_, rfl⟩
    rw [hE]
    have HE := Lib.hid hE
    clear hE
    go_enter Try.func13, Try.ntmps13
    go_wp2
    go_loopw [13] (fun i wr => ∃ k t : Nat, k ≤ n ∧ i = .int .i64 k ∧ xs.take k = ys.take k ∧ wr = w.drewN t) (fun i _ => n - (intOf i).toNat)
    case atStart => exact ⟨0, 0, Nat.zero_le _, rfl, rfl, rfl⟩
    case round =>
      obtain ⟨k, t, hk, rfl, ht, rfl⟩ := hrel
      by_cases hlt : k < n
      · obtain ⟨b, off, rfl, _, hca⟩ := HA.out.at_ hlt
        obtain ⟨b', off', rfl, _, hcb⟩ := HB.out.at_ hlt
        by_cases hx : xs.getD k 0 = ys.getD k 0
        · have HT := Lib.hid (take_eq_step ht (by have := LA.out; omega) (by have := LB.out; omega) hx)
          rw [← hx] at hcb
          clear ht hx
          generalize xs.getD k 0 = x at *
          go_wp2
          go_quiet (fail)
          go_wp2
          go_roundw
          case rel => exact ⟨k + 1, _, by omega, by go_num, HT.out, rfl⟩
          case measure => simp [intOf]; omega
        · have e : eqL xs ys = false := by
            unfold eqL; rw [decide_eq_false_iff_not]; rintro rfl; exact hx rfl
          have q : (xs.getD k 0 != ys.getD k 0) = true := by simpa using hx
          have HQ := Lib.hid (HE.out.symm.trans e)
          clear ht e hx
          generalize xs.getD k 0 = x at *
          generalize ys.getD k 0 = y at *
          go_wp2
          go_quiet (fail)
          go_wp2
          go_ret
          exact ⟨ret_b HQ.out.symm, _, World.drewN_drewN _ _ _⟩
      · obtain rfl : k = n := by omega
        have e : eqL xs ys = true := by
          rw [List.take_of_length_le (by have := LA.out; omega), List.take_of_length_le (by have := LB.out; omega)] at ht
          rw [ht]; exact eqL_refl _
        have HQ := Lib.hid (HE.out.symm.trans e)
        clear ht e
        go_wp2
        go_ret
        exact ⟨ret_b HQ.out.symm, _, rfl⟩
  · have e : eqL xs ys = false := by
      unfold eqL; rw [decide_eq_false_iff_not]; rintro rfl; exact hl (h.1 ▸ g.1)
    have q : ((n : Int) != (m : Int)) = true := by simp; omega
    rw [e]
    clear h g hl e
    go_enter Try.func13, Try.ntmps13
    go_wp2
    go_ret
    exact ⟨rfl, 0, rfl⟩
end Go.Proofs.Ytpkakoabopikhaa
