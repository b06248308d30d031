/- Contracts of package pane: the drops of the last minute; and the law package's own. -/
import Derived.Test.YtmocppghmdeahaaGreatLaw5
import Derived.Test.YtmocppghmdeahaaGreatMake
import Derived.Test.YtmocppghmdeahaaGreatBox
namespace Go.Proofs.YtmocppghmdeahaaGreat
set_option maxRecDepth 100000
open Go.RowKit
set_option linter.unusedVariables false
set_option linter.unusedSimpArgs false

/-- A limit as it counts. -/
def pcV (l : Int) : Int := if l < 0 then 0 else if 511 < l then 511 else l
theorem pc_in {l : Int} (h0 : 0 ≤ l) (h1 : l ≤ 511) : pcV l = l := by unfold pcV; split <;> (try split) <;> omega
theorem pc_bd (l : Int) : 0 ≤ pcV l ∧ pcV l ≤ 511 := by unfold pcV; split <;> (try split) <;> omega

theorem pn_counted (l : Int) (w : World) : Calls Tryz.prog 53 #[.int .i64 l] w fun e w' => e = .returned (.int .i64 (pcV l)) ∧ w = w' := by
  rcases (show l < 0 ∨ (0 ≤ l ∧ l ≤ 511) ∨ 511 < l by omega) with h | ⟨h0, h1⟩ | h
  · rw [show pcV l = 0 by unfold pcV; split <;> (try split) <;> omega]
    go_enter Tryz.func53, Tryz.ntmps53
    go_wp2
    all_goals go_ret
    all_goals exact ⟨by simp; try omega, rfl⟩
  · rw [pc_in h0 h1]
    go_enter Tryz.func53, Tryz.ntmps53
    go_wp2
    all_goals go_ret
    all_goals exact ⟨by simp; try omega, rfl⟩
  · rw [show pcV l = 511 by unfold pcV; split <;> (try split) <;> omega]
    go_enter Tryz.func53, Tryz.ntmps53
    go_wp2
    all_goals go_ret
    all_goals exact ⟨by simp; try omega, rfl⟩

theorem pn_over (A : Option Addr) (n c : Nat) (xs : List Int) (t l : Int) (w : World) (h : Ints w A n xs) (hn : n ≤ 9223372036854775807) :
    Calls Tryz.prog 22 #[.slice A n c, .int .i64 t, .int .i64 l] w fun e w' => e = .returned (.bool (overB xs t 6000 (pcV l))) ∧ w = w' := by
  have HC := Lib.hid (pn_counted l w)
  have HO := Lib.hid (span_over A n c xs t 6000 (pcV l) w h hn)
  generalize overB xs t 6000 (pcV l) = o at *
  generalize pcV l = p at *
  clear h
  go_enter Tryz.func22, Tryz.ntmps22
  go_wp2_with (first
    | (go_at_call 53; refine HC.out.mono ?_; rintro e w' ⟨rfl, rfl⟩)
    | (go_at_call 54; refine HO.out.mono ?_; rintro e w' ⟨rfl, rfl⟩))
  all_goals go_ret
  all_goals exact ⟨rfl, rfl⟩

theorem pn_push (A : Option Addr) (n c : Nat) (xs : List Int) (t l : Int) (w : World) (h : Ints w A n xs) (hn : n * 8 ≤ 140737488351232) :
    Calls Tryz.prog 20 #[.slice A n c, .int .i64 t, .bool true, .int .i64 l] w (OwnInts w (pushL (nearL xs t 6000) (pcV l + 1) t)) := by
  have HC := Lib.hid (pn_counted l w)
  have HO := Lib.hid (span_put_own A n c xs t 6000 (pcV l + 1) w h hn)
  have ⟨p0, p1⟩ := pc_bd l
  generalize pushL (nearL xs t 6000) (pcV l + 1) t = ys at *
  generalize pcV l = p at *
  clear h
  go_enter Tryz.func20, Tryz.ntmps20
  go_wp2_with (first
    | (go_at_call 53; refine HC.out.mono ?_; rintro e w' ⟨rfl, rfl⟩)
    | (go_at_call 52; refine HO.out.mono ?_; rintro e w' ⟨v, rfl, ho, hb⟩))
  all_goals go_ret
  all_goals exact ⟨v, rfl, ho, hb⟩

theorem pn_still (A : Option Addr) (n c : Nat) (xs : List Int) (t l : Int) (w : World) (h : Ints w A n xs) (hc : n ≤ c) (hn : n * 8 ≤ 140737488351232) :
    Calls Tryz.prog 20 #[.slice A n c, .int .i64 t, .bool false, .int .i64 l] w (OwnInts w (lastL xs 512)) := by
  have HO := Lib.hid ((ring_last_own A n c xs 512 w h hc hn).mono (fun _ _ h => h.own))
  generalize lastL xs 512 = ys at *
  clear h
  go_enter Tryz.func20, Tryz.ntmps20
  go_wp2_with (go_at_call 51; refine HO.out.mono ?_; rintro e w' ⟨v, rfl, ho, hb⟩)
  all_goals go_ret
  all_goals exact ⟨v, rfl, ho, hb⟩
theorem last_all {xs : List Int} (h : xs.length ≤ 512) : lastL xs 512 = xs := by
  unfold lastL
  rw [show cntV xs.length 512 = xs.length by unfold cntV; split <;> (try split) <;> omega, Nat.sub_self, List.drop_zero]

theorem OwnInts.ints {w w' : World} {e : Ending} {ys : List Int} {n : Nat} (hn : ys.length = n) (h : OwnInts w ys e w') : ∃ B d, e = .returned (.slice B n d) ∧ n ≤ d ∧ Ints w' B n ys ∧ Below w.heap.size w w' := by
  subst hn
  exact h.new

end Go.Proofs.YtmocppghmdeahaaGreat
