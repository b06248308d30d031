/- MedianSays holds of every list of numbers: the sorted one, the middle one of the last five, and how far they are apart, are the document's. No condition. -/
import Derived.Test.YtmdhmnpkiolmmaaRefMed
import Derived.Test.YtmdhmnpkiolmmaaLaw8
namespace Go.Proofs.Ytmdhmnpkiolmmaa.medianSays
open Go.ChangeShapes Go.WideShapes Go.ChangeAt Go.RowKit
set_option linter.unusedVariables false

set_option maxHeartbeats 1000000 in
theorem walk (w : World) (A : Option Addr) (n c : Nat) (xs : List Int) (hi : Ints w A n xs) (hc : n ≤ c) (hr : n * 8 ≤ 140737488351232) (wx : ∀ x ∈ xs, (Lit.int .i64 x).wf = true) :
    Calls Try.prog 3 #[.slice A n c] w fun e w' => e = .returned (.bool true) ∧ Below w.heap.size w w' := by
  clear wx
  have hA := At.refl w
  by_cases hn : 100 < n
  · clear hi
    go_enter Try.func3, Try.ntmps3
    go_wp2_with (go_at_call 7; refine (law8_awake w _ hA).mono ?_; rintro e w' ⟨rfl, hb⟩)
    all_goals go_ret
    all_goals exact ⟨rfl, by assumption⟩
  · have HI := Lib.hid hi
    have h1 := fun (w' : World) (h : At w w') => median_mid A n c xs w' (HI.out.below h) hc hr
    have h2 := fun (w' : World) (h : At w w') => ref8_mid A n c xs w' (HI.out.below h) hc hr
    have h3 := fun (w' : World) (h : At w w') => median_spread A n c xs w' (HI.out.below h) hc hr
    have h4 := fun (w' : World) (h : At w w') => ref8_spread A n c xs w' (HI.out.below h) hc hr
    have h5 := fun (w' : World) (h : At w w') => median_sort A n c xs w' (HI.out.below h) hc hr
    have h6 := fun (w' : World) (h : At w w') => ref8_sort A n c xs w' (HI.out.below h) hc (by omega)
    have hl := sortL_len xs
    rw [hi.1] at hl
    have hl2 : (sortL xs).length ≤ 100 := by omega
    have e1 := eqL_refl (sortL xs)
    clear hi hl
    generalize sortL xs = ys at *
    generalize midV xs = M at *
    generalize sprV xs = S at *
    generalize anyB n = b at *
    have H1 := Lib.hid h1
    have H2 := Lib.hid h2
    have H3 := Lib.hid h3
    have H4 := Lib.hid h4
    have H5 := Lib.hid h5
    have H6 := Lib.hid h6
    clear h1 h2 h3 h4 h5 h6
    go_enter Try.func3, Try.ntmps3
    go_wp2_with (first
      | (go_at_call 8; refine (H1.out _ hA).mono ?_; rintro e w1 ⟨rfl, b1⟩; have A1 := hA.below b1; clear b1)
      | (go_at_call 9; refine (H2.out _ A1).mono ?_; rintro e w2 ⟨rfl, b2⟩; have A2 := A1.below b2; clear b2)
      | (go_at_call 10; refine (H3.out _ A2).mono ?_; rintro e w3 ⟨rfl, b3⟩; have A3 := A2.below b3; clear b3)
      | (go_at_call 11; refine (H4.out _ A3).mono ?_; rintro e w4 ⟨rfl, b4⟩; have A4 := A3.below b4; clear b4)
      | (go_at_call 13; refine (H5.out _ A4).mono ?_; rintro e w5 ho5; obtain ⟨B5, d5, rfl, _, i5, b5⟩ := ho5.own.new; have A5 := A4.below b5; have I5 := Lib.hid i5; clear i5 b5 ho5)
      | (go_at_call 14; refine (H6.out _ A5).mono ?_; rintro e w6 ho6; obtain ⟨B6, d6, rfl, _, i6, b6⟩ := ho6.new; have A6 := A5.below b6; have I6 := Lib.hid i6; have J5 := Lib.hid (I5.out.below b6); clear i6 b6 ho6)
      | (go_at_call 12; refine (l4_ints w _ _ _ _ _ _ ys ys _ A6 J5.out I6.out (by omega) (by omega)).mono ?_; rintro e w7 ⟨rfl, _, A7⟩)
      | (go_at_call 7; refine (law8_awake w _ A7).mono ?_; rintro e w' ⟨rfl, A8⟩))
    all_goals go_ret
    all_goals exact ⟨rfl, A8⟩

theorem lifted (os : Os) (started : os.Started) (H : Type) (enc : TypeId × Value → H) :
    ReturnsInHanded {} Try.checked os 3 .any (Rows.medianSaysSpec.pre6 enc Try.prog Try.f3 Rows.medianSaysRow.domain false) (Rows.medianSaysSpec.post enc Try.prog Try.f3 false true false false) := by
  refine law_lift started (by kernel_rfl) Try.func3 rfl rfl ?_ (by kernel_rfl)
    (ChangeSpec.witness6 (enc := enc) (C := Try.checked) false ⟨#[], #[.slice none 0 0], []⟩ 8 (by kernel_rfl) (by kernel_rfl) (by kernel_rfl) (by kernel_rfl)) ?_
  · intro ds hl
    match ds, hl with
    | [_], _ => exact ⟨rfl, rfl, rfl⟩
  · intro W base args ds p hval hA hlt hwt
    rw [Try.params3] at hA hval hwt
    obtain ⟨v0, vs0, d0, ds0, p0, q0, hargs, rfl, rfl, h0, r0⟩ := trodAll_cons hA
    obtain ⟨rfl, rfl, rfl⟩ := trodAll_nil r0
    obtain rfl : args = #[v0] := by cases args; simp_all
    have wt0 : ∀ n ∈ d0.weights Try.prog 22, n ≤ reachBytes := fun n hn => by
      have := List.all_eq_true.1 hwt n (DataW.weights_mem_each (j := 0) (t := 22) (d := d0) rfl rfl n hn)
      simpa using this
    have lt0 : ∀ x ∈ p0, x.block < W.heap.size := fun x hx => hlt x (by simp [hx])
    obtain ⟨A0, n0, c0, xs0, rfl, hi0, hc0, hr0, w0⟩ := open_ints_arg Try.underlying22 Try.underlying3 (by kernel_rfl) (by kernel_rfl) (hval 0 22 v0 rfl rfl) h0 lt0 wt0
    exact walk W A0 n0 c0 xs0 hi0 hc0 hr0 w0

theorem over : Rows.medianSaysRow.holds Try.pinned (OpenSpec.ofChange Rows.medianSaysSpec) :=
  OpenClaim.holds_of_wide 3 Try.f3 rfl rfl rfl rfl rfl rfl rfl ⟨rfl, rfl, rfl, rfl, rfl⟩ rfl rfl rfl rfl rfl (by kernel_rfl) Try.func3 (by kernel_rfl)
    (of_decide_eq_true (by kernel_rfl)) (by unfold Func.isWrapper; first | (rw [if_pos (by decide +kernel)]; kernel_rfl) | (rw [if_neg (by decide +kernel)]; exact ⟨rfl, rfl⟩))
    (fun os started H enc _ => lifted os started H enc)

theorem proved : Rows.MedianSaysSaid := over
#print axioms proved
end Go.Proofs.Ytmdhmnpkiolmmaa.medianSays
