/- RingSays holds of every list of numbers, and any two numbers: what is pushed, what stands where, the last ones, the greatest one and the sum are the document's. No condition. -/
import Derived.Test.YtpkakoabopikhaaLaw4
import Derived.Test.YtpkakoabopikhaaLift
namespace Go.Proofs.Ytpkakoabopikhaa.ringSays
open Go.ChangeShapes Go.WideShapes Go.ChangeAt Go.RowKit
set_option linter.unusedVariables false

set_option maxRecDepth 100000 in
set_option maxHeartbeats 1000000 in
theorem walk (w : World) (A : Option Addr) (n c : Nat) (xs : List Int) (hi : Ints w A n xs) (hc : n ≤ c) (hr : n * 8 ≤ 140737488351232) (wx : ∀ x ∈ xs, (Lit.int .i64 x).wf = true) (most : Int) (wm : (Lit.int .i64 most).wf = true) (x : Int) (wk : (Lit.int .i64 x).wf = true) :
    Calls Try.prog 3 #[.slice A n c, .int .i64 most, .int .i64 x] w fun e w' => e = .returned (.bool true) ∧ Below w.heap.size w w' := by
  clear wx
  obtain ⟨m0, m1⟩ := wf_bd wm
  obtain ⟨x0, x1⟩ := wf_bd wk
  have hA := At.refl w
  by_cases hn : 700 < n
  · clear hi
    go_enter Try.func3, Try.ntmps3
    go_wp2_with (go_at_call 6; refine (law4_awake w _ hA).mono ?_; rintro e w' ⟨rfl, hb⟩)
    go_ret
    exact ⟨rfl, hb⟩
  · have HI := Lib.hid hi
    have s1 := eqL_refl (pushL xs most x)
    have s2 := eqL_refl (lastL xs x)
    clear hi
    obtain ⟨P, hP⟩ : ∃ P, pushL xs most x = P := ⟨_, rfl⟩
    obtain ⟨L, hL⟩ : ∃ L, lastL xs x = L := ⟨_, rfl⟩
    have p1 := pushL_len xs most x
    have p2 : (lastL xs x).length ≤ n := by rw [lastL_len, HI.out.1]; exact cntV_le _ _
    rw [hP] at s1 p1
    rw [hL] at s2 p2
    have HP := Lib.hid hP
    have HL := Lib.hid hL
    clear hP hL
    go_enter Try.func3, Try.ntmps3
    go_wp2_with (first
      | (go_at_call 7; refine (ring_back A n c xs x _ HI.out (by omega) x0 x1).mono ?_; rintro e w' ⟨rfl, rfl⟩)
      | (go_at_call 8; refine (ref_back A n c xs x _ HI.out (by omega) x0 x1).mono ?_; rintro e w' ⟨rfl, rfl⟩)
      | (go_at_call 9; refine (ring_most A n c xs _ HI.out (by omega)).mono ?_; rintro e w' ⟨rfl, rfl⟩)
      | (go_at_call 10; refine (ref_most A n c xs _ HI.out (by omega)).mono ?_; rintro e w' ⟨rfl, rfl⟩)
      | (go_at_call 11; refine (ring_total A n c xs _ HI.out (by omega)).mono ?_; rintro e w' ⟨rfl, rfl⟩)
      | (go_at_call 12; refine (ref_total A n c xs _ HI.out (by omega)).mono ?_; rintro e w' ⟨rfl, rfl⟩)
      | (go_at_call 14; refine (ring_push A n c xs most x _ HI.out hc hr).mono ?_; rintro e w1 ⟨B1, d1, rfl, _, i1, b1⟩; rw [HP.out] at i1; rw [HP.out]; replace i1 := Lib.hid i1)
      | (go_at_call 15; refine (ref_push A n c xs most x _ (HI.out.below b1) hc hr m0 m1).mono ?_; rintro e w2 ⟨B2, d2, rfl, _, i2, b2⟩; rw [HP.out] at i2; rw [HP.out]; replace i2 := Lib.hid i2)
      | (go_at_call 13; refine (l4_ints w B1 B2 _ d1 _ d2 P P _ (b1.trans (b2.mono b1.size)) (i1.out.below b2) i2.out (by omega) (by omega)).mono ?_; rintro e w3 ⟨rfl, a3, A3⟩))
    go_wp2_with (first
      | (go_at_call 16; refine (ring_last A n c xs x _ (HI.out.below A3) hc hr).mono ?_; rintro e w4 ⟨B4, d4, rfl, _, i4, b4⟩; rw [HL.out] at i4; rw [HL.out]; replace i4 := Lib.hid i4)
      | (go_at_call 17; refine (ref_last A n c xs x _ (HI.out.below (A3.below b4)) hc hr x0 x1).mono ?_; rintro e w5 ⟨B5, d5, rfl, _, i5, b5⟩; rw [HL.out] at i5; rw [HL.out]; replace i5 := Lib.hid i5)
      | (go_at_call 13; refine (l4_ints w B4 B5 _ d4 _ d5 L L _ ((A3.below b4).below b5) (i4.out.below b5) i5.out (by omega) (by omega)).mono ?_; rintro e w6 ⟨rfl, a6, A6⟩)
      | (go_at_call 6; refine (law4_awake w _ A6).mono ?_; rintro e w7 ⟨rfl, hb⟩))
    go_ret
    exact ⟨rfl, hb⟩

theorem lifted (os : Os) (started : os.Started) (H : Type) (enc : TypeId × Value → H) :
    ReturnsInHanded {} Try.checked os 3 .any (Rows.ringSaysSpec.pre6 enc Try.prog Try.f3 Rows.ringSaysRow.domain false) (Rows.ringSaysSpec.post enc Try.prog Try.f3 false true false false) := by
  refine law_lift started (by kernel_rfl) Try.func3 rfl rfl ?_ (by kernel_rfl)
    (ChangeSpec.witness6 (enc := enc) (C := Try.checked) false ⟨#[], #[.slice none 0 0, .int .i64 0, .int .i64 0], []⟩ 8 (by kernel_rfl) (by kernel_rfl) (by kernel_rfl) (by kernel_rfl)) ?_
  · intro ds hl
    match ds, hl with
    | [_, _, _], _ => exact ⟨rfl, rfl, rfl⟩
  · intro W base args ds p hval hA hlt hwt
    rw [Try.params3] at hA hval hwt
    obtain ⟨v0, vs0, d0, ds0, p0, q0, hargs, rfl, rfl, h0, r0⟩ := trodAll_cons hA
    obtain ⟨v1, vs1, d1, ds1, p1, q1, rfl, rfl, rfl, h1, r1⟩ := trodAll_cons r0
    obtain ⟨v2, vs2, d2, ds2, p2, q2, rfl, rfl, rfl, h2, r2⟩ := trodAll_cons r1
    obtain ⟨rfl, rfl, rfl⟩ := trodAll_nil r2
    obtain rfl : args = #[v0, v1, v2] := by cases args; simp_all
    have wt0 : ∀ n ∈ d0.weights Try.prog 22, n ≤ reachBytes := fun n hn => by
      have := List.all_eq_true.1 hwt n (DataW.weights_mem_each (j := 0) (t := 22) (d := d0) rfl rfl n hn)
      simpa using this
    have lt0 : ∀ x ∈ p0, x.block < W.heap.size := fun x hx => hlt x (by simp [hx])
    obtain ⟨A0, n0, c0, xs0, rfl, hi0, hc0, hr0, w0⟩ := open_ints_arg Try.underlying22 Try.underlying3 (by kernel_rfl) (by kernel_rfl) (hval 0 22 v0 rfl rfl) h0 lt0 wt0
    obtain ⟨a1, rfl, rfl, rfl, w1⟩ := open_int Try.underlying3 (hval 1 3 v1 rfl rfl) h1
    obtain ⟨a2, rfl, rfl, rfl, w2⟩ := open_int Try.underlying3 (hval 2 3 v2 rfl rfl) h2
    exact walk W A0 n0 c0 xs0 hi0 hc0 hr0 w0 a1 w1 a2 w2

theorem over : Rows.ringSaysRow.holds Try.pinned (OpenSpec.ofChange Rows.ringSaysSpec) :=
  OpenClaim.holds_of_wide 3 Try.f3 rfl rfl rfl rfl rfl rfl rfl ⟨rfl, rfl, rfl, rfl, rfl⟩ rfl rfl rfl rfl rfl (by kernel_rfl) Try.func3 (by kernel_rfl)
    (of_decide_eq_true (by kernel_rfl)) (by unfold Func.isWrapper; first | (rw [if_pos (by decide +kernel)]; kernel_rfl) | (rw [if_neg (by decide +kernel)]; exact ⟨rfl, rfl⟩))
    (fun os started H enc _ => lifted os started H enc)

theorem proved : Rows.RingSaysSaid := over
#print axioms proved
end Go.Proofs.Ytpkakoabopikhaa.ringSays
