/- BeamSays holds of every run, and every list of ticks: the run, and whether it is a stream, are the document's. No condition. -/
import Derived.Test.YtgfioiclhoiobaaLaw20
namespace Go.Proofs.Ytgfioiclhoiobaa.beamSays
open Go.ChangeShapes Go.WideShapes Go.ChangeAt Go.RowKit
set_option linter.unusedVariables false

theorem walk (W : World) (r : Int) (wr : (Lit.int .i64 r).wf = true) (p : Bool) (A : Option Addr) (n c : Nat) (rs : List (List Value)) (hi : Rows [.bool] W A n rs) (hc : n ≤ c) (hr : n * 1 ≤ 140737488351232) :
    Calls Try.prog 3 #[.int .i64 r, .bool p, .slice A n c] W fun e W' => e = .returned (.bool true) ∧ Below W.heap.size W W' := by
  obtain ⟨ps, hp⟩ := Truths.of_rows hi
  clear hi wr
  have HP := Lib.hid hp
  clear hp
  have hb := At.refl W
  by_cases hn : 400 < n
  · have t1 : decide (400 < (n : Int)) = true := decide_eq_true (by omega)
    go_enter Try.func3, Try.ntmps3
    go_wp2_with (go_at_call 6; refine (law20_awake _).mono ?_; rintro e w' ⟨rfl, hb⟩)
    all_goals go_ret
    all_goals exact ⟨rfl, hb⟩
  · have t1 : decide (400 < (n : Int)) = false := decide_eq_false (by omega)
    have HR := Lib.hid (fun w (h : At W w) => rb_stream ps A n c w (HP.out.below h) (by omega))
    have HS := Lib.hid (fun w (h : At W w) => l20_stream (c := c) W w HP.out (by omega) h)
    generalize strB ps n = q at *
    go_enter Try.func3, Try.ntmps3
    go_wp2_with (first
      | (go_at_call 7; refine (bm_step _ _ _).mono ?_; rintro e w' ⟨rfl, rfl⟩)
      | (go_at_call 8; refine (rb_step _ _ _).mono ?_; rintro e w' ⟨rfl, rfl⟩)
      | (go_at_call 9; refine (HS.out _ (by assumption)).mono ?_; rintro e w' ⟨rfl, hb⟩)
      | (go_at_call 10; refine (HR.out _ (by assumption)).mono ?_; rintro e w' ⟨rfl, rfl⟩)
      | (go_at_call 6; refine (law20_awake _).mono ?_; rintro e w' ⟨rfl, hb2⟩; have hb3 := At.below (W := W) (by assumption) hb2))
    all_goals go_ret
    all_goals exact ⟨rfl, hb3⟩

theorem lifted (os : Os) (started : os.Started) (H : Type) (enc : TypeId × Value → H) :
    ReturnsInHanded {} Try.checked os 3 .any (Rows.beamSaysSpec.pre6 enc Try.prog Try.f3 Rows.beamSaysRow.domain false) (Rows.beamSaysSpec.post enc Try.prog Try.f3 false true false false) := by
  refine law_lift started (by kernel_rfl) Try.func3 rfl rfl ?_ (by kernel_rfl)
    (ChangeSpec.witness6 (enc := enc) (C := Try.checked) false ⟨#[], #[.int .i64 0, .bool false, .slice none 0 0], []⟩ 8 (by kernel_rfl) (by kernel_rfl) (by kernel_rfl) (by kernel_rfl)) ?_
  · intro ds hl
    match ds, hl with
    | [_, _, _], _ => exact ⟨rfl, rfl, rfl⟩
  · intro W base args ds p hval hA hlt hwt
    rw [Try.params3] at hA hval hwt
    obtain ⟨v0, vs0, d0, ds0, p0, q0, hargs, rfl, rfl, h0, r0⟩ := trodAll_cons hA
    obtain ⟨v1, vs1, d1, ds1, p1, q1, rfl, rfl, rfl, h1, r1⟩ := trodAll_cons r0
    obtain ⟨v2, vs2, d2, ds2, p2, q2, rfl, rfl, rfl, h2, r2⟩ := trodAll_cons r1
    obtain ⟨rfl, rfl, rfl⟩ := trodAll_nil r2
    obtain rfl : args = #[v0, v1, v2] := by cases args; simp_all
    obtain ⟨a0, rfl, rfl, rfl, w0⟩ := open_int Try.underlying3 (hval 0 3 v0 rfl rfl) h0
    obtain ⟨a1, rfl, rfl, rfl⟩ := open_bool Try.underlying4 (hval 1 4 v1 rfl rfl) h1
    have wt2 : ∀ n ∈ d2.weights Try.prog 22, n ≤ reachBytes := fun n hn => by
      have := List.all_eq_true.1 hwt n (DataW.weights_mem_each (j := 2) (t := 22) (d := d2) rfl rfl n hn)
      simpa using this
    have lt2 : ∀ x ∈ p2, x.block < W.heap.size := fun x hx => hlt x (by simp [hx])
    obtain ⟨A2, n2, c2, xs2, rfl, hi2, hc2, hr2⟩ := open_rows_arg 5 [.bool] Try.underlying22 (by kernel_rfl) (by kernel_rfl) (by decide) (by kernel_rfl) (hval 2 22 v2 rfl rfl) h2 lt2 wt2
    exact walk W a0 w0 a1 A2 n2 c2 xs2 hi2 hc2 hr2

theorem over : Rows.beamSaysRow.holds Try.pinned (OpenSpec.ofChange Rows.beamSaysSpec) :=
  OpenClaim.holds_of_wide 3 Try.f3 rfl rfl rfl rfl rfl rfl rfl ⟨rfl, rfl, rfl, rfl, rfl⟩ rfl rfl rfl rfl rfl (by kernel_rfl) Try.func3 (by kernel_rfl)
    (of_decide_eq_true (by kernel_rfl)) (by unfold Func.isWrapper; first | (rw [if_pos (by decide +kernel)]; kernel_rfl) | (rw [if_neg (by decide +kernel)]; exact ⟨rfl, rfl⟩))
    (fun os started H enc _ => lifted os started H enc)

theorem proved : Rows.BeamSaysSaid := over
#print axioms proved
end Go.Proofs.Ytgfioiclhoiobaa.beamSays
