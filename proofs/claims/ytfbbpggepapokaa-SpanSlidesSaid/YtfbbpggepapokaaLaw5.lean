/- The law package's own check 'awake' of stage 5; spans of small numbers. -/
import Derived.Test.YtfbbpggepapokaaSpan
import Derived.Test.YtfbbpggepapokaaLaw4
namespace Go.Proofs.Ytfbbpggepapokaa
open Go.RowKit
set_option linter.unusedVariables false

theorem clV_small {x : Int} (h0 : -9007199254740992 ≤ x) (h1 : x ≤ 9007199254740992) : clV x = x := clV_in (by omega)
/-- Of small numbers. -/
theorem inV_small {now width : Int} (x : Int) (h0 : -4503599627370496 ≤ now) (h1 : now ≤ 4503599627370496) (h2 : -4503599627370496 ≤ width) (h3 : width ≤ 4503599627370496) :
    inV x now width = decide (now - width < clV x ∧ clV x ≤ now) := by
  unfold inV subV
  rw [clV_small (x := now) (by omega) (by omega), clV_small (x := width) (by omega) (by omega), clV_small (x := now - width) (by omega) (by omega)]

theorem law5_awake (W w : World) (h : At W w) :
    Calls Try.prog 5 #[] w fun e w' => e = .returned (.bool true) ∧ At W w' := by
  have e0 : pushL (nearL [3, 7] 9 6) 5 9 = [7, 9] := by decide
  have e1 : cntI [3, 7, 9] 9 6 = 2 := by decide
  have e2 : overB [7, 9] 9 6 1 = true := by decide
  have e3 : overB [7, 9] 9 6 2 = false := by decide
  have e8 : eqL [7, 9] [7, 9] = true := by decide
  have hn2 : ∀ w : World, Ints (w.alloc (.cells #[.int .i64 7, .int .i64 9] 3)) (some ⟨w.heap.size, 0, none⟩) 2 [7, 9] := fun w => ints_new w [7, 9]
  have hn3 : ∀ w : World, Ints (w.alloc (.cells #[.int .i64 3, .int .i64 7, .int .i64 9] 3)) (some ⟨w.heap.size, 0, none⟩) 3 [3, 7, 9] := fun w => ints_new w [3, 7, 9]
  have hP := span_put (some ⟨w.heap.size, 0, none⟩) 2 2 [3, 7] 9 6 5 (w.alloc (.cells #[.int .i64 3, .int .i64 7] 3)) (ints_new w [3, 7]) (by omega)
  rw [e0] at hP
  have HP := Lib.hid hP
  clear hP e0
  go_enter Try.func5, Try.ntmps5
  go_wp2_with (go_at_call 6; refine HP.out.mono ?_; rintro e w1 ⟨B, d, rfl, hd, hi, hb1⟩)
  have hi1 : Ints w1 B 2 [7, 9] := hi
  have A1 : At W w1 := (h.below ((Below.refl _ _).alloc (Nat.le_refl _) _)).below hb1
  clear hi hd hb1 h
  go_wp2_with (first
    | (go_at_call 9; refine (l4_ints W _ _ _ _ _ _ [7, 9] [7, 9] _ (A1.below ((Below.refl _ _).alloc (Nat.le_refl _) _)) (hi1.below ((Below.refl _ _).alloc (Nat.le_refl _) _)) (hn2 w1) (by omega) (by omega)).mono ?_; rintro e w2 ⟨rfl, a2, A2⟩)
    | (go_at_call 8; refine (span_count _ 3 3 [3, 7, 9] 9 6 _ (hn3 w2) (by omega)).mono ?_; rintro e w' ⟨rfl, rfl⟩)
    | (go_at_call 7; refine (span_over B 2 d [7, 9] _ _ _ _ (((hi1.below ((Below.refl _ _).alloc (Nat.le_refl _) _)).below a2).below ((Below.refl _ _).alloc (Nat.le_refl _) _)) (by omega)).mono ?_; rintro e w' ⟨rfl, rfl⟩))
  go_ret
  exact ⟨rfl, A2.below ((Below.refl _ _).alloc (Nat.le_refl _) _)⟩
end Go.Proofs.Ytfbbpggepapokaa
