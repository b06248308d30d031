/- Contracts of package pane: the drops of the last minute; and the law package's own. -/
import Derived.Test.YtidmoacjgbjlnaaLaw5
import Derived.Test.YtidmoacjgbjlnaaMake
import Derived.Test.YtidmoacjgbjlnaaBox
namespace Go.Proofs.Ytidmoacjgbjlnaa
set_option maxRecDepth 100000
open Go.RowKit
set_option linter.unusedVariables false
set_option linter.unusedSimpArgs false

/-- A limit as it counts. -/
def pcV (l : Int) : Int := if l < 0 then 0 else if 511 < l then 511 else l
theorem pc_in {l : Int} (h0 : 0 ≤ l) (h1 : l ≤ 511) : pcV l = l := by unfold pcV; split <;> (try split) <;> omega
theorem pc_bd (l : Int) : 0 ≤ pcV l ∧ pcV l ≤ 511 := by unfold pcV; split <;> (try split) <;> omega

theorem pn_counted (l : Int) (w : World) : Calls Try.prog 43 #[.int .i64 l] w fun e w' => e = .returned (.int .i64 (pcV l)) ∧ w = w' := by
  rcases (show l < 0 ∨ (0 ≤ l ∧ l ≤ 511) ∨ 511 < l by omega) with h | ⟨h0, h1⟩ | h
  · rw [show pcV l = 0 by unfold pcV; split <;> (try split) <;> omega]
    go_enter Try.func43, Try.ntmps43
    go_wp2
    all_goals go_ret
    all_goals exact ⟨by simp; try omega, rfl⟩
  · rw [pc_in h0 h1]
    go_enter Try.func43, Try.ntmps43
    go_wp2
    all_goals go_ret
    all_goals exact ⟨by simp; try omega, rfl⟩
  · rw [show pcV l = 511 by unfold pcV; split <;> (try split) <;> omega]
    go_enter Try.func43, Try.ntmps43
    go_wp2
    all_goals go_ret
    all_goals exact ⟨by simp; try omega, rfl⟩

theorem pn_over (A : Option Addr) (n c : Nat) (xs : List Int) (t l : Int) (w : World) (h : Ints w A n xs) (hn : n ≤ 9223372036854775807) :
    Calls Try.prog 14 #[.slice A n c, .int .i64 t, .int .i64 l] w fun e w' => e = .returned (.bool (overB xs t 6000 (pcV l))) ∧ w = w' := by
  have HC := Lib.hid (pn_counted l w)
  have HO := Lib.hid (span_over A n c xs t 6000 (pcV l) w h hn)
  generalize overB xs t 6000 (pcV l) = o at *
  generalize pcV l = p at *
  clear h
  go_enter Try.func14, Try.ntmps14
  go_wp2_with (first
    | (go_at_call 43; refine HC.out.mono ?_; rintro e w' ⟨rfl, rfl⟩)
    | (go_at_call 44; refine HO.out.mono ?_; rintro e w' ⟨rfl, rfl⟩))
  all_goals go_ret
  all_goals exact ⟨rfl, rfl⟩

theorem pn_push (A : Option Addr) (n c : Nat) (xs : List Int) (t l : Int) (w : World) (h : Ints w A n xs) (hn : n * 8 ≤ 140737488351232) :
    Calls Try.prog 13 #[.slice A n c, .int .i64 t, .bool true, .int .i64 l] w (OwnInts w (pushL (nearL xs t 6000) (pcV l + 1) t)) := by
  have HC := Lib.hid (pn_counted l w)
  have HO := Lib.hid (span_put_own A n c xs t 6000 (pcV l + 1) w h hn)
  have ⟨p0, p1⟩ := pc_bd l
  generalize pushL (nearL xs t 6000) (pcV l + 1) t = ys at *
  generalize pcV l = p at *
  clear h
  go_enter Try.func13, Try.ntmps13
  go_wp2_with (first
    | (go_at_call 43; refine HC.out.mono ?_; rintro e w' ⟨rfl, rfl⟩)
    | (go_at_call 42; refine HO.out.mono ?_; rintro e w' ⟨v, rfl, ho, hb⟩))
  all_goals go_ret
  all_goals exact ⟨v, rfl, ho, hb⟩

theorem pn_still (A : Option Addr) (n c : Nat) (xs : List Int) (t l : Int) (w : World) (h : Ints w A n xs) (hc : n ≤ c) (hn : n * 8 ≤ 140737488351232) :
    Calls Try.prog 13 #[.slice A n c, .int .i64 t, .bool false, .int .i64 l] w (OwnInts w (lastL xs 512)) := by
  have HO := Lib.hid ((ring_last_own A n c xs 512 w h hc hn).mono (fun _ _ h => h.own))
  generalize lastL xs 512 = ys at *
  clear h
  go_enter Try.func13, Try.ntmps13
  go_wp2_with (go_at_call 41; refine HO.out.mono ?_; rintro e w' ⟨v, rfl, ho, hb⟩)
  all_goals go_ret
  all_goals exact ⟨v, rfl, ho, hb⟩
theorem last_all {xs : List Int} (h : xs.length ≤ 512) : lastL xs 512 = xs := by
  unfold lastL
  rw [show cntV xs.length 512 = xs.length by unfold cntV; split <;> (try split) <;> omega, Nat.sub_self, List.drop_zero]

theorem OwnInts.ints {w w' : World} {e : Ending} {ys : List Int} {n : Nat} (hn : ys.length = n) (h : OwnInts w ys e w') : ∃ B d, e = .returned (.slice B n d) ∧ n ≤ d ∧ Ints w' B n ys ∧ Below w.heap.size w w' := by
  subst hn
  exact h.new

set_option maxRecDepth 100000 in
theorem law26_awake (w : World) : Calls Try.prog 12 #[] w fun e w' => e = .returned (.bool true) ∧ Below w.heap.size w w' := by
  have A0 : Below w.heap.size w w := Below.refl _ _
  have h1 := fun w => pn_push none 0 0 [] 10 2 w ⟨rfl, fun h => absurd h (by omega)⟩ (by omega)
  rw [show pushL (nearL [] 10 6000) (pcV 2 + 1) 10 = [10] by decide] at h1
  have h2 := fun B d w (h : Ints w B 1 [10]) => pn_push B 1 d [10] 20 2 w h (by omega)
  rw [show pushL (nearL [10] 20 6000) (pcV 2 + 1) 20 = [10, 20] by decide] at h2
  have h3 := fun B d w (h : Ints w B 2 [10, 20]) => pn_push B 2 d [10, 20] 30 2 w h (by omega)
  rw [show pushL (nearL [10, 20] 30 6000) (pcV 2 + 1) 30 = [10, 20, 30] by decide] at h3
  have h4 := fun B d w (h : Ints w B 3 [10, 20, 30]) => pn_over B 3 d [10, 20, 30] 30 2 w h (by omega)
  rw [show overB [10, 20, 30] 30 6000 (pcV 2) = true by decide] at h4
  have h5 := fun B d w (h : Ints w B 3 [10, 20, 30]) => pn_over B 3 d [10, 20, 30] 6009 2 w h (by omega)
  rw [show overB [10, 20, 30] 6009 6000 (pcV 2) = true by decide] at h5
  have h6 := fun B d w (h : Ints w B 3 [10, 20, 30]) => pn_over B 3 d [10, 20, 30] 6010 2 w h (by omega)
  rw [show overB [10, 20, 30] 6010 6000 (pcV 2) = false by decide] at h6
  have h7 := fun B d w (h : Ints w B 2 [20, 30]) => pn_over B 2 d [20, 30] 30 2 w h (by omega)
  rw [show overB [20, 30] 30 6000 (pcV 2) = false by decide] at h7
  have h8 := fun B d w (h : Ints w B 3 [10, 20, 30]) (hd : 3 ≤ d) => pn_still B 3 d [10, 20, 30] 50 2 w h hd (by omega)
  rw [show lastL [10, 20, 30] 512 = [10, 20, 30] by decide] at h8
  have H1 := Lib.hid h1
  have H2 := Lib.hid h2
  have H3 := Lib.hid h3
  have H4 := Lib.hid h4
  have H5 := Lib.hid h5
  have H6 := Lib.hid h6
  have H7 := Lib.hid h7
  have H8 := Lib.hid h8
  clear h1 h2 h3 h4 h5 h6 h7 h8
  go_enter Try.func12, Try.ntmps12
  go_wp2_with (fail)
  refine (H1.out _).mono ?_
  rintro e w1 hN
  obtain ⟨B1, d1, rfl, hd1, hi1, hb⟩ := hN.ints (n := 1) rfl
  have A1 := below_call A0 hb
  clear hN hb A0
  go_wp2_with (fail)
  refine (H2.out _ _ _ hi1).mono ?_
  rintro e w2 hN
  obtain ⟨B2, d2, rfl, hd2, hi2, hb⟩ := hN.ints (n := 2) rfl
  have A2 := below_call A1 hb
  clear hN hb A1 hi1
  go_wp2_with (fail)
  refine (H3.out _ _ _ hi2).mono ?_
  rintro e w3 hN
  obtain ⟨B, d, rfl, hd3, hi3, hb⟩ := hN.ints (n := 3) rfl
  have A3 := below_call A2 hb
  clear hN hb A2 hi2
  obtain ⟨b, off, rfl, hlt, hcell⟩ := hi3.2 (by omega)
  have I7 := Lib.hid (show Ints w3 (some ⟨b, off + 1, none⟩) 2 [20, 30] from ⟨rfl, fun _ => ⟨b, off + 1, rfl, hlt, fun i hi => by
    rw [Nat.add_assoc, Nat.add_comm 1 i, hcell (i + 1) (by omega)]
    match i, hi with
    | 0, _ => rfl
    | 1, _ => rfl⟩⟩)
  clear hcell
  have I3 := Lib.hid hi3
  clear hi3
  go_wp2_with (first
    | (go_at_call 14; ((with_reducible refine (H4.out _ _ _ I3.out).mono ?_)); rintro e w' ⟨rfl, rfl⟩)
    | (go_at_call 14; ((with_reducible refine (H5.out _ _ _ I3.out).mono ?_)); rintro e w' ⟨rfl, rfl⟩)
    | (go_at_call 14; ((with_reducible refine (H6.out _ _ _ I3.out).mono ?_)); rintro e w' ⟨rfl, rfl⟩)
    | (go_at_call 14; refine (H7.out _ _ _ I7.out).mono ?_; rintro e w' ⟨rfl, rfl⟩)
    | (go_at_call 13; refine (H8.out _ _ _ I3.out hd3).mono ?_; rintro e w' hN; obtain ⟨B8, d8, rfl, hd8, hi8, hb⟩ := hN.ints (n := 3) rfl))
  all_goals go_ret
  all_goals exact ⟨rfl, below_call A3 hb⟩
end Go.Proofs.Ytidmoacjgbjlnaa
