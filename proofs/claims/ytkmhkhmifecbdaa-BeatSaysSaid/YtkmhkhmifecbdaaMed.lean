/- Contracts of package median. -/
import Derived.Test.YtkmhkhmifecbdaaMedN
import Derived.Test.YtkmhkhmifecbdaaMake
import Derived.Test.YtkmhkhmifecbdaaCalm
import Derived.IntWalk
namespace Go.Proofs.Ytkmhkhmifecbdaa
set_option maxRecDepth 100000
open Go.RowKit
set_option linter.unusedVariables false
set_option linter.unusedSimpArgs false

theorem last_all (xs : List Int) : lastL xs (xs.length : Nat) = xs := by
  unfold lastL cntV
  rw [if_neg (by omega)]
  split <;> simp

theorem own_after {w w1 w2 : World} {base e g n d : Nat} {cs ds : List Value} (h : w1.ownsRow base e 1 (.slice (some ⟨g, 0, none⟩) n d) n cs) : base ≤ g ∧ g < w1.heap.size := by
  rcases h.2 with ⟨e0, _⟩ | ⟨g', cap, cur, e0, hb, hg, _⟩
  · cases e0
  · injection e0 with e1
    injection e1 with e1
    injection e1 with e1
    subst e1
    exact ⟨hb, (Array.getElem?_eq_some_iff.1 hg).1⟩

theorem own_cell {w : World} {base e g n d : Nat} {ys : List Int} (h : w.ownsRow base e 1 (.slice (some ⟨g, 0, none⟩) n d) n (ys.map (Value.int .i64))) {i : Nat} (hi : i < ys.length) : w.cell? ⟨g, i, none⟩ = some (.int .i64 (ys.getD i 0)) := by
  have hl : ys.length = n := by simpa using h.1
  rw [h.cellAt i (by omega)]
  simp [List.getD, List.getElem?_eq_getElem hi]

theorem median_sort (A : Option Addr) (n c : Nat) (xs : List Int) (w : World) (h : Ints w A n xs) (hc : n ≤ c) (hr : n * 8 ≤ 140737488351232) :
    Calls Try.prog 33 #[.slice A n c] w (OwnSome w (sortL xs)) := by
  have hl := h.1
  have hL := ring_last_own A n c xs n w h hc hr
  subst hl
  rw [last_all] at hL
  have HL := Lib.hid hL
  have HS := Lib.hid (fun g d w1 h => slices_sort w.heap.size g xs.length d xs w1 (by omega) h)
  have LS := Lib.hid (sortL_len xs)
  clear hL h
  go_enter Try.func33, Try.ntmps33
  go_wp2_with (first
    | (go_at_call 19; refine HL.out.mono ?_; rintro e w1 ⟨g, d, rfl, ho, hb⟩; have HO := Lib.hid ho; have HB := Lib.hid hb; clear ho hb)
    | (go_at_call 38; refine (HS.out _ _ _ HO.out).mono ?_; rintro e w2 ⟨rfl, ho2, hg2⟩; have HO2 := Lib.hid ho2; have HG2 := Lib.hid hg2; clear ho2 hg2))
  go_ret
  have ⟨hbg, hgl⟩ := own_after (w := w) (w2 := w2) (ds := []) HO.out
  exact ⟨g, d, by rw [LS.out]; rfl, by rw [LS.out]; exact HO2.out, HB.out.grown HG2.out HB.out.size (fun k hk => by cases hk; exact hbg)⟩

theorem OwnSome.from {w w1 w' : World} {e : Ending} {ys : List Int} (h : OwnSome w1 ys e w') (hb : Below w.heap.size w w1) : OwnSome w ys e w' := by
  obtain ⟨g, d, he, ho, hb1⟩ := h
  exact ⟨g, d, he, own_base ho hb.size, Below.trans hb (hb1.mono hb.size)⟩

theorem median_five (A : Option Addr) (n c : Nat) (xs : List Int) (w : World) (h : Ints w A n xs) (hc : n ≤ c) (hr : n * 8 ≤ 140737488351232) :
    Calls Try.prog 23 #[.slice A n c] w (OwnSome w (fiveL xs)) := by
  have hL := ring_last A n c xs 5 w h hc hr
  have hlen : (lastL xs 5).length ≤ 5 := by rw [lastL_len, five_cnt]; omega
  have HL := Lib.hid hL
  unfold fiveL
  generalize lastL xs 5 = ys at *
  clear hL h
  go_enter Try.func23, Try.ntmps23
  go_wp2_with (first
    | (go_at_call 19; refine HL.out.mono ?_; rintro e w1 ⟨B, d, rfl, hd, hi, hb⟩; have HI := Lib.hid hi; have HB := Lib.hid hb; clear hi hb)
    | (go_at_call 33; refine (median_sort _ _ _ ys _ HI.out hd (by omega)).mono ?_; rintro e w2 ho; have HO := Lib.hid (ho.from HB.out); obtain ⟨g2, d2, rfl, _, _⟩ := ho))
  go_ret
  exact HO.out

theorem median_mid (A : Option Addr) (n c : Nat) (xs : List Int) (w : World) (h : Ints w A n xs) (hc : n ≤ c) (hr : n * 8 ≤ 140737488351232) :
    Calls Try.prog 13 #[.slice A n c] w fun e w' => e = .returned (.tuple #[.int .i64 (midV xs), .bool (anyB n)]) ∧ Below w.heap.size w w' := by
  have hF := median_five A n c xs w h hc hr
  have hlen := fiveL_len xs
  rw [h.1] at hlen
  have hl := h.1
  by_cases h0 : n = 0
  · subst h0
    have e1 : midV xs = 0 := by unfold midV; rw [if_pos (by omega)]
    have e2 : anyB 0 = false := by unfold anyB; simp
    rw [e1, e2]
    generalize fiveL xs = ys at *
    have hy : ys.length = 0 := by omega
    have HF := Lib.hid hF
    clear hF hlen h hl e1 e2
    go_enter Try.func13, Try.ntmps13
    go_wp2_with (go_at_call 23; refine HF.out.mono ?_; rintro e w1 ⟨g, d, rfl, _, hb⟩)
    all_goals go_ret2
    all_goals exact ⟨rfl, hb⟩
  · have e1 : midV xs = (fiveL xs).getD ((min n 5 - 1) / 2) 0 := by unfold midV; rw [if_neg (by omega), hl]
    have e2 : anyB n = true := by unfold anyB; simp; omega
    rw [e1, e2]
    generalize fiveL xs = ys at *
    obtain ⟨r, hr1, hr4⟩ : ∃ r, ys.length = r + 1 ∧ r ≤ 4 := ⟨min n 5 - 1, by omega, by omega⟩
    rw [show min n 5 - 1 = r by omega]
    have HF := Lib.hid hF
    have HY := Lib.hid hr1
    clear hF hlen h hl e1 e2
    have hT : ((r : Int) + 1 - 1) / 2 = ((r / 2 : Nat) : Int) := by omega
    go_enter Try.func13, Try.ntmps13
    go_wp2_with (go_at_call 23; refine HF.out.mono ?_; rintro e w1 ⟨g, d, rfl, ho, hb⟩; have hck := own_cell ho (i := r / 2) (by have := HY.out; omega); have HO := Lib.hid ho; clear ho; rw [HY.out])
    all_goals go_ret2
    all_goals exact ⟨rfl, hb⟩

end Go.Proofs.Ytkmhkhmifecbdaa
