/- sat.Sum and the document's Sum over a slice that reads as a list; the law package's own check 'awake' answers true. -/
import Derived.Test.YtpkakoabopikhaaSatLaws
import Derived.Test.YtpkakoabopikhaaLift
namespace Go.Proofs.Ytpkakoabopikhaa
open Go.RowKit
set_option linter.unusedVariables false

def sumP : List Int → Int × Bool := fun l => l.foldl (fun s n => (addV s.1 n, s.2 || addB s.1 n)) (0, false)
def sumV (l : List Int) : Int := (sumP l).1
def sumB (l : List Int) : Bool := (sumP l).2
theorem sumP_step (xs : List Int) (k : Nat) (hk : k < xs.length) : sumP (xs.take (k + 1)) = (addV (sumV (xs.take k)) (xs.getD k 0), sumB (xs.take k) || addB (sumV (xs.take k)) (xs.getD k 0)) := by
  unfold sumV sumB sumP
  rw [List.take_add_one, List.foldl_append]
  simp [List.getD, List.getElem?_eq_getElem hk]
theorem sumV_step (xs : List Int) (k : Nat) (hk : k < xs.length) : sumV (xs.take (k + 1)) = addV (sumV (xs.take k)) (xs.getD k 0) := by
  show (sumP _).1 = _; rw [sumP_step xs k hk]
theorem sumB_step (xs : List Int) (k : Nat) (hk : k < xs.length) : sumB (xs.take (k + 1)) = (sumB (xs.take k) || addB (sumV (xs.take k)) (xs.getD k 0)) := by
  show (sumP _).2 = _; rw [sumP_step xs k hk]

theorem sat_sum (A : Option Addr) (n c : Nat) (xs : List Int) (w : World) (h : Ints w A n xs) (hn : n ≤ 9223372036854775807) :
    Calls Try.prog 19 #[.slice A n c] w fun e w' => e = .returned (.tuple #[.int .i64 (sumV xs), .bool (sumB xs)]) ∧ w = w' := by
  obtain ⟨hl, hc⟩ := h
  have HC := Lib.hid hc
  have HL := Lib.hid hl
  clear hc hl
  go_enter Try.func19, Try.ntmps19
  go_wp2
  go_loop [4, 5, 12] (fun s b i => ∃ k : Nat, k ≤ n ∧ s = .int .i64 (sumV (xs.take k)) ∧ b = .bool (sumB (xs.take k)) ∧ i = .int .i64 k) (fun _ _ i => n - (intOf i).toNat)
  case atStart => exact ⟨0, Nat.zero_le _, rfl, rfl, rfl⟩
  case round =>
    obtain ⟨k, hk, rfl, rfl, rfl⟩ := hrel
    by_cases hlt : k < n
    · obtain ⟨b, off, rfl, _, hcell⟩ := HC.out (by omega)
      have hck := hcell k hlt
      have hcl := HL.out
      have e1 := sumV_step xs k (by omega)
      have e2 := sumB_step xs k (by omega)
      have E1 := Lib.hid e1
      have E2 := Lib.hid e2
      clear hcell hcl e1 e2
      generalize xs.getD k 0 = x at *
      go_wp2_with (go_at_call 24; refine (sat_add _ _ _).mono ?_; rintro e w' ⟨rfl, rfl⟩)
      all_goals
        go_round
        case rel => exact ⟨k + 1, by omega, by rw [E1.out], by rw [E2.out]; simp [*], by go_num⟩
        case measure => simp [intOf]; omega
    · obtain rfl : k = n := by omega
      have e3 : xs.take k = xs := List.take_of_length_le (by have := HL.out; omega)
      rw [e3]
      clear e3
      go_wp2
      go_ret2
      exact ⟨rfl, rfl⟩

theorem ints_lit (w : World) : Ints (w.alloc (.cells #[.int .i64 1, .int .i64 2, .int .i64 3] 3)) (some ⟨w.heap.size, 0, none⟩) 3 [1, 2, 3] := by
  refine ⟨rfl, fun _ => ⟨w.heap.size, 0, rfl, by simp, fun i hi => ?_⟩⟩
  rw [World.cell?_alloc_at _ _ _ _ rfl]
  match i, hi with
  | 0, _ => rfl
  | 1, _ => rfl
  | 2, _ => rfl

end Go.Proofs.Ytpkakoabopikhaa
