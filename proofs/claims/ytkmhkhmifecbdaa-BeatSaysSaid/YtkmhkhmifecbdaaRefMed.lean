/- Contracts of the document's own median; the law package's own check 'awake'. -/
import Derived.Test.YtkmhkhmifecbdaaRefSort
import Derived.Test.YtkmhkhmifecbdaaSatLaws
import Derived.Test.YtkmhkhmifecbdaaLaw4
namespace Go.Proofs.Ytkmhkhmifecbdaa
set_option maxRecDepth 100000
open Go.RowKit
set_option linter.unusedVariables false
set_option linter.unusedSimpArgs false

theorem ints_cell {w : World} {B : Option Addr} {n : Nat} {ys : List Int} (h : Ints w B n ys) (h0 : 0 < n) : ∃ b off, B = some ⟨b, off, none⟩ ∧ ∀ i, i < n → w.cell? ⟨b, off + i, none⟩ = some (.int .i64 (ys.getD i 0)) := by
  obtain ⟨b, off, e, _, hc⟩ := h.2 h0
  exact ⟨b, off, e, hc⟩

theorem ref8_five (A : Option Addr) (n c : Nat) (xs : List Int) (w : World) (h : Ints w A n xs) (hc : n ≤ c) (hr : n * 8 ≤ 140737488351232) :
    Calls Try.prog 21 #[.slice A n c, .int .i64 5] w fun e w1 => ∃ B m d ys, ys = lastL xs 5 ∧ e = .returned (.slice B m d) ∧ m ≤ d ∧ m ≤ 5 ∧ Ints w1 B m ys ∧ Below w.heap.size w w1 :=
  (ref_last A n c xs 5 w h hc hr (by omega) (by omega)).mono fun e w1 ⟨B, d, he, hd, hi, hb⟩ => ⟨B, _, d, _, rfl, he, hd, by rw [lastL_len, five_cnt]; omega, hi, hb⟩

theorem ref8_mid (A : Option Addr) (n c : Nat) (xs : List Int) (w : World) (h : Ints w A n xs) (hc : n ≤ c) (hr : n * 8 ≤ 140737488351232) :
    Calls Try.prog 15 #[.slice A n c] w fun e w' => e = .returned (.tuple #[.int .i64 (midV xs), .bool (anyB n)]) ∧ Below w.heap.size w w' := by
  have hl := h.1
  by_cases h0 : n = 0
  · subst h0
    have e1 : midV xs = 0 := by unfold midV; rw [if_pos (by omega)]
    have e2 : anyB 0 = false := by unfold anyB; simp
    rw [e1, e2]
    clear h hl e1 e2
    go_enter Try.func15, Try.ntmps15
    go_wp2
    all_goals go_ret2
    all_goals exact ⟨rfl, Below.refl _ _⟩
  · have e1 : midV xs = (fiveL xs).getD ((min n 5 - 1) / 2) 0 := by unfold midV; rw [if_neg (by omega), hl]
    have e2 : anyB n = true := by unfold anyB; simp; omega
    have hlen := fiveL_len xs
    rw [h.1] at hlen
    rw [e1, e2]
    obtain ⟨r, hr1, hr4⟩ : ∃ r, (fiveL xs).length = r + 1 ∧ r ≤ 4 := ⟨min n 5 - 1, by omega, by omega⟩
    rw [show min n 5 - 1 = r by omega]
    obtain ⟨z, hz⟩ : ∃ z, (fiveL xs).getD (r / 2) 0 = z := ⟨_, rfl⟩
    rw [hz]
    have KZ := Lib.hid hz
    have HF := Lib.hid (ref8_five A n c xs w h hc hr)
    have HY := Lib.hid hr1
    have t0 : ((n : Int) == 0) = false := by simp; omega
    have hT : ((r : Int) + 1 - 1) / 2 = ((r / 2 : Nat) : Int) := by omega
    clear h hl e1 e2 hr1 hz hlen
    go_enter Try.func15, Try.ntmps15
    go_wp2_with (first
      | (go_at_call 21; refine HF.out.mono ?_; rintro e w1 ⟨B, m, d, ys, hys, rfl, hd, hm, hi, hb⟩; have HI := Lib.hid hi; have HB := Lib.hid hb; have KYS := Lib.hid hys; clear hi hb hys)
      | (go_at_call 25; refine (ref8_sort _ _ _ ys _ HI.out hd (by omega)).mono ?_; rintro e w2 ho; obtain ⟨B2, d2, rfl, hd2, hi2, hb2⟩ := ho.new; have HB2 := Lib.hid (HB.out.trans (hb2.mono HB.out.size)); have e5 : sortL ys = fiveL xs := (by rw [KYS.out]; rfl); rw [e5] at hi2; rw [e5]; rw [HY.out] at hi2; rw [HY.out]; obtain ⟨b, off, rfl, hcc⟩ := ints_cell hi2 (by omega); have hck := hcc (r / 2) (by omega); rw [KZ.out] at hck; clear hi2 hb2 hd2 ho hcc e5))
    all_goals go_ret2
    all_goals exact ⟨rfl, HB2.out⟩

end Go.Proofs.Ytkmhkhmifecbdaa
