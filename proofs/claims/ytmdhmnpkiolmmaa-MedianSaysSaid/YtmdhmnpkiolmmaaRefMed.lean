/- Contracts of the document's own median; the law package's own check 'awake'. -/
import Derived.Test.YtmdhmnpkiolmmaaRefSort
import Derived.Test.YtmdhmnpkiolmmaaSatLaws
import Derived.Test.YtmdhmnpkiolmmaaLaw4
namespace Go.Proofs.Ytmdhmnpkiolmmaa
open Go.RowKit
set_option linter.unusedVariables false

theorem ints_cell {w : World} {B : Option Addr} {n : Nat} {ys : List Int} (h : Ints w B n ys) (h0 : 0 < n) : ∃ b off, B = some ⟨b, off, none⟩ ∧ ∀ i, i < n → w.cell? ⟨b, off + i, none⟩ = some (.int .i64 (ys.getD i 0)) := by
  obtain ⟨b, off, e, _, hc⟩ := h.2 h0
  exact ⟨b, off, e, hc⟩

theorem ref8_five (A : Option Addr) (n c : Nat) (xs : List Int) (w : World) (h : Ints w A n xs) (hc : n ≤ c) (hr : n * 8 ≤ 140737488351232) :
    Calls Try.prog 16 #[.slice A n c, .int .i64 5] w fun e w1 => ∃ B m d ys, ys = lastL xs 5 ∧ e = .returned (.slice B m d) ∧ m ≤ d ∧ m ≤ 5 ∧ Ints w1 B m ys ∧ Below w.heap.size w w1 :=
  (ref_last A n c xs 5 w h hc hr (by omega) (by omega)).mono fun e w1 ⟨B, d, he, hd, hi, hb⟩ => ⟨B, _, d, _, rfl, he, hd, by rw [lastL_len, five_cnt]; omega, hi, hb⟩

theorem ref8_mid (A : Option Addr) (n c : Nat) (xs : List Int) (w : World) (h : Ints w A n xs) (hc : n ≤ c) (hr : n * 8 ≤ 140737488351232) :
    Calls Try.prog 9 #[.slice A n c] w fun e w' => e = .returned (.tuple #[.int .i64 (midV xs), .bool (anyB n)]) ∧ Below w.heap.size w w' := by
  have hl := h.1
  by_cases h0 : n = 0
  · subst h0
    have e1 : midV xs = 0 := by unfold midV; rw [if_pos (by omega)]
    have e2 : anyB 0 = false := by unfold anyB; simp
    rw [e1, e2]
    clear h hl e1 e2
    go_enter Try.func9, Try.ntmps9
    go_wp2
    all_goals go_ret2
    all_goals exact ⟨rfl, Below.refl _ _⟩
  · have e1 : midV xs = (fiveL xs).getD ((min n 5 - 1) / 2) 0 := by unfold midV; rw [if_neg (by omega), hl]
    have e2 : anyB n = true := by unfold anyB; simp; omega
    have hlen := fiveL_len xs
    rw [h.1] at hlen
    rw [e1, e2]
    obtain ⟨r, hr1, hr4⟩ : ∃ r, (fiveL xs).length = r + 1 ∧ r ≤ 4 := ⟨min n 5 - 1, by omega, by omega⟩
    rw [show min n 5 - 1 = r by omega]
    obtain ⟨z, hz⟩ : ∃ z, (fiveL xs).getD (r / 2) 0 = z := ⟨_, rfl⟩
    rw [hz]
    have KZ := Lib.hid hz
    have HF := Lib.hid (ref8_five A n c xs w h hc hr)
    have HY := Lib.hid hr1
    have t0 : ((n : Int) == 0) = false := by simp; omega
    have hT : ((r : Int) + 1 - 1) / 2 = ((r / 2 : Nat) : Int) := by omega
    clear h hl e1 e2 hr1 hz hlen
    go_enter Try.func9, Try.ntmps9
    go_wp2_with (first
      | (go_at_call 16; refine HF.out.mono ?_; rintro e w1 ⟨B, m, d, ys, hys, rfl, hd, hm, hi, hb⟩; have HI := Lib.hid hi; have HB := Lib.hid hb; have KYS := Lib.hid hys; clear hi hb hys)
      | (go_at_call 14; refine (ref8_sort _ _ _ ys _ HI.out hd (by omega)).mono ?_; rintro e w2 ho; obtain ⟨B2, d2, rfl, hd2, hi2, hb2⟩ := ho.new; have HB2 := Lib.hid (HB.out.trans (hb2.mono HB.out.size)); have e5 : sortL ys = fiveL xs := (by rw [KYS.out]; rfl); rw [e5] at hi2; rw [e5]; rw [HY.out] at hi2; rw [HY.out]; obtain ⟨b, off, rfl, hcc⟩ := ints_cell hi2 (by omega); have hck := hcc (r / 2) (by omega); rw [KZ.out] at hck; clear hi2 hb2 hd2 ho hcc e5))
    all_goals go_ret2
    all_goals exact ⟨rfl, HB2.out⟩

theorem ref8_spread (A : Option Addr) (n c : Nat) (xs : List Int) (w : World) (h : Ints w A n xs) (hc : n ≤ c) (hr : n * 8 ≤ 140737488351232) :
    Calls Try.prog 11 #[.slice A n c] w fun e w' => e = .returned (.tuple #[.int .i64 (sprV xs), .bool (anyB n)]) ∧ Below w.heap.size w w' := by
  have hl := h.1
  by_cases h0 : n = 0
  · subst h0
    have e1 : sprV xs = 0 := by unfold sprV; rw [if_pos (by omega)]
    have e2 : anyB 0 = false := by unfold anyB; simp
    rw [e1, e2]
    clear h hl e1 e2
    go_enter Try.func11, Try.ntmps11
    go_wp2
    all_goals go_ret2
    all_goals exact ⟨rfl, Below.refl _ _⟩
  · have e1 : sprV xs = subV ((fiveL xs).getD (min n 5 - 1) 0) ((fiveL xs).getD 0 0) := by unfold sprV; rw [if_neg (by omega), hl]
    have e2 : anyB n = true := by unfold anyB; simp; omega
    have hlen := fiveL_len xs
    rw [h.1] at hlen
    rw [e1, e2]
    obtain ⟨r, hr1, hr4⟩ : ∃ r, (fiveL xs).length = r + 1 ∧ r ≤ 4 := ⟨min n 5 - 1, by omega, by omega⟩
    rw [show min n 5 - 1 = r by omega]
    obtain ⟨x, hx⟩ : ∃ z, (fiveL xs).getD r 0 = z := ⟨_, rfl⟩
    obtain ⟨y, hy⟩ : ∃ z, (fiveL xs).getD 0 0 = z := ⟨_, rfl⟩
    rw [hx, hy]
    have KX := Lib.hid hx
    have KY := Lib.hid hy
    have HF := Lib.hid (ref8_five A n c xs w h hc hr)
    have HY := Lib.hid hr1
    have HS := Lib.hid (fun w => ref_sub x y w)
    have t0 : ((n : Int) == 0) = false := by simp; omega
    have hp0 : (0 : Int) ≤ (r : Int) := by omega
    have hT : (r : Int) + 1 - 1 = (r : Int) := by omega
    have hT2 : IntKind.i64.wrap ((r : Int) + 1 - 1) = (r : Int) := by rw [hT]; exact IntWalk.i64_in _ (by omega)
    clear h hl e1 e2 hr1 hx hy hlen
    go_enter Try.func11, Try.ntmps11
    go_wp2_with (first
      | (go_at_call 16; refine HF.out.mono ?_; rintro e w1 ⟨B, m, d, ys, hys, rfl, hd, hm, hi, hb⟩; have HI := Lib.hid hi; have HB := Lib.hid hb; have KYS := Lib.hid hys; clear hi hb hys)
      | (go_at_call 14; refine (ref8_sort _ _ _ ys _ HI.out hd (by omega)).mono ?_; rintro e w2 ho; obtain ⟨B2, d2, rfl, hd2, hi2, hb2⟩ := ho.new; have hbb : Below w.heap.size w w2 := (HB.out.trans (hb2.mono HB.out.size)); have HB2 := Lib.hid hbb; have e5 : sortL ys = fiveL xs := (by rw [KYS.out]; rfl); rw [e5] at hi2; rw [e5]; rw [HY.out] at hi2; rw [HY.out]; obtain ⟨b, off, rfl, hcc⟩ := ints_cell hi2 (by omega); have hck := hcc r (by omega); have hc0 := hcc 0 (by omega); rw [KX.out] at hck; rw [KY.out, Nat.add_zero] at hc0; clear hi2 hb2 hd2 ho hcc e5 hbb))
    go_quiet ((go_at_call 18; exact Calls.quiet_of_same ((HS.out _).mono fun _ _ h => ⟨h.1, h.2.symm⟩)))
    all_goals go_wp2
    all_goals go_ret2
    all_goals exact ⟨rfl, below_drewN HB2.out _⟩
end Go.Proofs.Ytmdhmnpkiolmmaa
