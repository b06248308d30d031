/- Contracts of package beam (its runs hand on through a function), the document's, and the law package's own. -/
import Derived.RangeFuncNested
import Derived.RangeFuncBound
import Derived.RangeFuncCalls
import Derived.RangeFuncLeaves
import Derived.RangeFuncBox
import Derived.Shelf.Abstract
import Derived.Shelf.RegionOpen
import Derived.OwnWalkIn
import Derived.TacticsInMore
import Derived.LoopNIn
import Derived.LoopIn
import Derived.Test.YtgfioiclhoiobaaTruths
import Derived.Test.YtgfioiclhoiobaaSat
namespace Go.Proofs.Ytgfioiclhoiobaa
open Go.RowKit Go.Shelf
set_option linter.unusedVariables false

def sgV (run : Int) (p : Bool) : Int := if p = true then withV run 0 1099511627776 + 1 else 0
/-- The run behind so many of them. -/
def rnK (ps : List Bool) : Nat → Int
  | 0 => 0
  | k + 1 => sgV (rnK ps k) (ps.getD k false)
def strB (ps : List Bool) (n : Nat) : Bool := (List.range n).any fun k => decide (12 ≤ rnK ps (k + 1))
theorem withT_bd (n : Int) : 0 ≤ withV n 0 1099511627776 ∧ withV n 0 1099511627776 ≤ 1099511627776 := by unfold withV; split <;> (try split) <;> (try split) <;> omega
theorem withT_1 {n : Int} (h1 : n < 0) : withV n 0 1099511627776 = 0 := by unfold withV; split <;> (try split) <;> (try split) <;> omega
theorem withT_2 {n : Int} (h1 : 0 ≤ n) (h2 : n ≤ 1099511627776) : withV n 0 1099511627776 = n := by unfold withV; split <;> (try split) <;> (try split) <;> omega
theorem withT_3 {n : Int} (h1 : 1099511627776 < n) : withV n 0 1099511627776 = 1099511627776 := by unfold withV; split <;> (try split) <;> (try split) <;> omega
theorem rn_bd (ps : List Bool) : ∀ k : Nat, 0 ≤ rnK ps k ∧ rnK ps k ≤ 1099511627777
  | 0 => by simp [rnK]
  | k + 1 => by
    have := withT_bd (rnK ps k)
    unfold rnK sgV
    split <;> omega

theorem bm_step (r : Int) (p : Bool) (w : World) : Calls Try.prog 7 #[.int .i64 r, .bool p] w fun e w' => e = .returned (.int .i64 (sgV r p)) ∧ w = w' := by
  unfold sgV
  cases p
  · rw [if_neg (by simp)]
    go_enter Try.func7, Try.ntmps7
    go_wp2
    all_goals go_ret
    all_goals exact ⟨rfl, rfl⟩
  · rw [if_pos rfl]
    rcases (by omega : r < 0 ∨ (0 ≤ r ∧ r ≤ 1099511627776) ∨ 1099511627776 < r) with h1 | ⟨h1, h2⟩ | h1
    · rw [withT_1 h1]
      go_enter Try.func7, Try.ntmps7
      go_wp2
      all_goals go_ret
      all_goals exact ⟨rfl, rfl⟩
    · rw [withT_2 h1 h2]
      go_enter Try.func7, Try.ntmps7
      go_wp2
      all_goals go_ret
      all_goals exact ⟨rfl, rfl⟩
    · rw [withT_3 h1]
      go_enter Try.func7, Try.ntmps7
      go_wp2
      all_goals go_ret
      all_goals exact ⟨rfl, rfl⟩
theorem rb_step (r : Int) (p : Bool) (w : World) : Calls Try.prog 8 #[.int .i64 r, .bool p] w fun e w' => e = .returned (.int .i64 (sgV r p)) ∧ w = w' := by
  unfold sgV
  cases p
  · rw [if_neg (by simp)]
    go_enter Try.func8, Try.ntmps8
    go_wp2
    all_goals go_ret
    all_goals exact ⟨rfl, rfl⟩
  · rw [if_pos rfl]
    rcases (by omega : r < 0 ∨ (0 ≤ r ∧ r ≤ 1099511627776) ∨ 1099511627776 < r) with h1 | ⟨h1, h2⟩ | h1
    · rw [withT_1 h1]
      go_enter Try.func8, Try.ntmps8
      go_wp2
      all_goals go_ret
      all_goals exact ⟨rfl, rfl⟩
    · rw [withT_2 h1 h2]
      go_enter Try.func8, Try.ntmps8
      go_wp2
      all_goals go_ret
      all_goals exact ⟨rfl, rfl⟩
    · rw [withT_3 h1]
      go_enter Try.func8, Try.ntmps8
      go_wp2
      all_goals go_ret
      all_goals exact ⟨rfl, rfl⟩

/-! ### Its runs, handed on. -/
def upto {α : Type} (f : Nat → α) (k : Nat) : List α := (List.range k).map f
theorem upto_succ {α : Type} (f : Nat → α) (k : Nat) : upto f (k + 1) = upto f k ++ [f k] := by simp [upto, List.range_succ]
theorem upto_length {α : Type} (f : Nat → α) (k : Nat) : (upto f k).length = k := by simp [upto]
def rnF (ps : List Bool) (j : Nat) : Int := rnK ps (j + 1)

section
attribute [local go_sem] Oper.semAt_some

set_option maxRecDepth 100000 in
set_option maxHeartbeats 2000000 in
theorem bm_runs1 (n : Nat) (hn : 1 ≤ n) (l Bs : Nat) (W0 : World) (A : Option Addr) (len cap : Nat) (ps : List Bool) (hT : Truths W0 A len ps) (hlen : len ≤ 9223372036854775807) (J Jx : List Int → World → Prop)
    (hY : ∀ pre x W, J pre W → pre.length < len → YieldAt Fence.wide (n - 1) Try.prog l #[.int .i64 x] W fun e W' =>
      (e = .returned (.bool true) ∧ J (pre ++ [x]) W' ∧ Below W0.heap.size W W') ∨ (e = .returned (.bool false) ∧ Jx (pre ++ [x]) W'))
    (W : World) (hW : Below W0.heap.size W0 W) (hBs : W.cell? ⟨Bs, 0, none⟩ = some (.slice A len cap)) (h0 : J [] W) :
    CallsIn Fence.wide n Try.prog 12 #[.func (.yield l) #[] #[], .pointer (some ⟨Bs, 0, none⟩)] W fun e W' => (∃ v, e = .returned v) ∧
      ((∃ ys, ys = upto (rnF ps) len ∧ J ys W') ∨ (∃ pre, (∃ k, k ≤ len ∧ pre = upto (rnF ps) k) ∧ Jx pre W')) := by
  have HT := Lib.hid hT
  clear hT
  refine callsIn_of_wp Try.func12 rfl trivial ?_ rfl
  simp only [Try.ntmps12, List.size_toArray, List.length_cons, List.length_nil, Nat.reduceAdd, Nat.reduceSub, Array.replicate_succ, Array.replicate_zero, List.push_toArray, List.append_toArray, List.nil_append, List.cons_append]
  gi_wp2
  gi_loopw [3, 8] (fun r i wr => ∃ k : Nat, k ≤ len ∧ i = .int .i64 k ∧ r = .int .i64 (rnK ps k) ∧ J (upto (rnF ps) k) wr ∧ Below W0.heap.size W0 wr)
    (fun _ i _ => len - (intOf i).toNat)
  case atStart => exact ⟨0, Nat.zero_le _, rfl, rfl, h0, hW⟩
  case round =>
    obtain ⟨k, hk, rfl, rfl, hJs, hnx⟩ := hrel
    by_cases hlt : k < len
    · obtain ⟨b, off, rfl, hb, hck⟩ := HT.out.at_ hlt
      have hck2 := (hnx.cell (p := ⟨b, off + k, none⟩) hb).trans hck
      obtain ⟨x, hx⟩ : ∃ x, rnF ps k = x := ⟨_, rfl⟩
      have HS := Lib.hid (show ∀ w, Calls Try.prog 7 #[.int .i64 (rnK ps k), .bool (ps.getD k false)] w fun e w' => e = .returned (.int .i64 x) ∧ w = w' from fun w => hx ▸ bm_step _ _ w)
      obtain ⟨fn, tmps, assign, body, hy, hR⟩ := hY _ x wr hJs (by rw [upto_length]; exact hlt)
      have HX := Lib.hid hx
      generalize ps.getD k false = q at *
      generalize rnK ps k = r at *
      clear hck hx
      gi_wp2_with (refine ⟨trivial, ?_⟩; gi_at_call 7; refine (callsIn_wide.2 (HS.out _)).mono ?_; rintro e w' ⟨rfl, rfl⟩)
      refine hR.mono ?_
      rintro e W3 (⟨rfl, hJ3, hk3⟩ | ⟨rfl, hJx3⟩)
      · gi_wp2
        go_roundw
        case rel => exact ⟨k + 1, by omega, by simp, by rw [← HX.out]; rfl, by rw [upto_succ, HX.out]; exact hJ3, hnx.trans hk3⟩
        case measure => simp [intOf]; omega
      · gi_wp2
        refine bodyPost_ret (results_none rfl _ _ _) rfl ?_
        exact ⟨⟨_, rfl⟩, .inr ⟨_, ⟨k + 1, by omega, by rw [upto_succ, HX.out]⟩, hJx3⟩⟩
    · obtain rfl : k = len := by omega
      gi_wp2
      go_end0
      exact ⟨⟨_, rfl⟩, .inl ⟨_, rfl, hJs⟩⟩

theorem bm_runs (A : Option Addr) (len cap : Nat) (w : World) :
    Calls Try.prog 11 #[.slice A len cap] w fun e w' => e = .returned (.func (.func 12) #[] #[.pointer (some ⟨w.heap.size, 0, none⟩)]) ∧ w' = w.alloc (.cells #[.slice A len cap] 22) := by
  go_enter Try.func11, Try.ntmps11
  go_wp2
  all_goals go_ret
  all_goals exact ⟨rfl, rfl⟩

theorem bm_stops (n : Nat) (hn : 1 ≤ n) (Bs : Nat) (W0 : World) (A : Option Addr) (len cap : Nat) (ps : List Bool) (hT : Truths W0 A len ps) (hlen : len ≤ 9223372036854775807) (w : World) (hw : Below W0.heap.size W0 w) (hBs : Bs < w.heap.size)
    (hc : w.cell? ⟨Bs, 0, none⟩ = some (.slice A len cap)) :
    SeqStopsK Fence.wide n Try.prog 12 #[.pointer (some ⟨Bs, 0, none⟩)] (fun x : Int => #[Value.int .i64 x]) (Below W0.heap.size) (fun ys => ys = upto (rnF ps) len) (fun pre => ∃ k, k ≤ len ∧ pre = upto (rnF ps) k) len w := fun l J Jx W hW _ _ hY h0 =>
  bm_runs1 n hn l Bs W0 A len cap ps hT hlen J Jx hY W (hw.trans (hW.mono hw.size)) ((hW.cell (p := ⟨Bs, 0, none⟩) hBs).trans hc) h0
end
end Go.Proofs.Ytgfioiclhoiobaa
