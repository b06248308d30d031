/- VarintRises holds of every two numbers: a greater number has no fewer bytes; unlike numbers have unlike ones. No condition. -/
import Derived.Test.YthijabhnmjbboaaLaw51
import Derived.Test.YthijabhnmjbboaaLift
import Derived.Deep.CutBlock
namespace Go.Proofs.Ythijabhnmjbboaa.varintRises
open Go.ChangeShapes Go.WideShapes Go.ChangeAt Go.RowKit
set_option linter.unusedVariables false
set_option linter.unusedSimpArgs false

set_option maxRecDepth 100000 in
set_option maxHeartbeats 2000000 in
theorem walk (a : Int) (wa : (Lit.int .i64 a).wf = true) (b : Int) (wb : (Lit.int .i64 b).wf = true) (W : World) :
    Calls Try.prog 5 #[.int .i64 a, .int .i64 b] W fun e W' => e = .returned (.bool true) ∧ Below W.heap.size W W' := by
  clear wa wb
  have A : Below W.heap.size W W := Below.refl _ _
  obtain ⟨x, hx⟩ : ∃ x, min (max a 0) 18014398509481984 = x := ⟨_, rfl⟩
  obtain ⟨y, hy⟩ : ∃ y, min (max b 0) 18014398509481984 = y := ⟨_, rfl⟩
  have x0 : 0 ≤ x ∧ x ≤ 18014398509481984 := by omega
  have y0 : 0 ≤ y ∧ y ≤ 18014398509481984 := by omega
  obtain ⟨X, rfl⟩ := Int.eq_ofNat_of_zero_le x0.1
  obtain ⟨Y, rfl⟩ := Int.eq_ofNat_of_zero_le y0.1
  obtain ⟨P, hP⟩ : ∃ P, max a 0 = P := ⟨_, rfl⟩
  obtain ⟨Q, hQ⟩ : ∃ Q, max b 0 = Q := ⟨_, rfl⟩
  have hP2 : (if a < 0 then 0 else a) = P := by split <;> omega
  have hQ2 : (if b < 0 then 0 else b) = Q := by split <;> omega
  rw [hP] at hx
  rw [hQ] at hy
  have hx2 : (if 18014398509481984 < P then 18014398509481984 else P) = (X : Int) := by split <;> omega
  have hy2 : (if 18014398509481984 < Q then 18014398509481984 else Q) = (Y : Int) := by split <;> omega
  have X1 : X ≤ 18014398509481984 := by omega
  have Y1 : Y ≤ 18014398509481984 := by omega
  have HX := fun w => vr_put (X : Int) w
  have HY := fun w => vr_put (Y : Int) w
  have lx : putL X = (putS (X : Int)).toList := by rw [putS_toList, show inV (X : Int) = X by unfold inV; omega, Int.toNat_natCast]
  have ly : putL Y = (putS (Y : Int)).toList := by rw [putS_toList, show inV (Y : Int) = Y by unfold inV; omega, Int.toNat_natCast]
  have sx := putS_size X1
  have sy := putS_size Y1
  have hz := zg_za x0.1 x0.2
  have hm1 : X ≤ Y → (putL X).length ≤ (putL Y).length := put_mono X1 Y1
  have hinj : putL X = putL Y → X = Y := put_inj X1 Y1
  have lX8 : (putL X).length ≤ 8 := (putN_len 7 X).2
  have lY8 : (putL Y).length ≤ 8 := (putN_len 7 Y).2
  clear x0 y0
  by_cases hxy : X = Y
  · have hXY : (Y : Int) = (X : Int) := by rw [hxy]
    rw [hXY] at hy hy2
    subst hxy
    generalize putS (X : Int) = S at *
    have HX := Lib.hid HX
    have HY := Lib.hid HY
    have t1 : decide ((X : Int) < (X : Int)) = false := decide_eq_false (by omega)
    clear lx ly sx sy hm1 hinj
    go_enter Try.func5, Try.ntmps5
    go_wp2_with (fail)
    refine (HX.out _).mono ?_
    rintro e w1 ⟨rfl, hb⟩
    replace A : Below W.heap.size W w1 := by (refine below_call ?_ hb; (repeat (first | (with_reducible exact Below.refl _ _) | (with_reducible assumption) | (with_reducible refine Near.up _ ?_) | (with_reducible refine Below.drew ?_) | (with_reducible refine below_alloc_on ?_ _) | (with_reducible refine below_set_on ?_ (by first | (simp; done) | (simp; omega) | omega) _))))
    clear hb
    have z_w1 : W.heap.size ≤ w1.heap.size := A.size
    go_wp2_with (fail)
    refine (HX.out _).mono ?_
    rintro e w2 ⟨rfl, hb⟩
    replace A : Below W.heap.size W w2 := by (refine below_call ?_ hb; (repeat (first | (with_reducible exact Below.refl _ _) | (with_reducible assumption) | (with_reducible refine Near.up _ ?_) | (with_reducible refine Below.drew ?_) | (with_reducible refine below_alloc_on ?_ _) | (with_reducible refine below_set_on ?_ (by first | (simp; done) | (simp; omega) | omega) _))))
    clear hb
    have z_w2 : W.heap.size ≤ w2.heap.size := A.size
    go_wp2_with ((first | (go_at_call 17; refine (vr_zag _ _).mono ?_; rintro e w' ⟨rfl, rfl⟩) | (go_at_call 15; refine (vr_zig _ _).mono ?_; rintro e w' ⟨rfl, rfl⟩)))
    refine (law51_awake _).mono ?_
    rintro e w3 ⟨rfl, hb⟩
    replace A : Below W.heap.size W w3 := by (refine below_call ?_ hb; (repeat (first | (with_reducible exact Below.refl _ _) | (with_reducible assumption) | (with_reducible refine Near.up _ ?_) | (with_reducible refine Below.drew ?_) | (with_reducible refine below_alloc_on ?_ _) | (with_reducible refine below_set_on ?_ (by first | (simp; done) | (simp; omega) | omega) _))))
    clear hb
    have z_w3 : W.heap.size ≤ w3.heap.size := A.size
    go_wp2
    all_goals go_ret
    all_goals exact ⟨rfl, A⟩
  · have hne : ((putS (X : Int)).toList == (putS (Y : Int)).toList) = false := by
      rw [← lx, ← ly, beq_eq_false_iff_ne]
      exact fun h => hxy (hinj h)
    have t2 : ((X : Int) == (Y : Int)) = false := by simp; omega
    rw [← sx, ← sy] at hm1
    generalize putS (X : Int) = S at *
    generalize putS (Y : Int) = T at *
    have HX := Lib.hid HX
    have HY := Lib.hid HY
    clear lx ly sx sy hinj
    go_enter Try.func5, Try.ntmps5
    go_upto_region 2 with fail
    clear hx hy hx2 hy2 hP hQ hP2 hQ2
    rcases (by omega : Y < X ∨ X ≤ Y) with h | h
    · have t1 : decide ((Y : Int) < (X : Int)) = true := decide_eq_true (by omega)
      go_wp2_with (fail)
      refine (HX.out _).mono ?_
      rintro e w1 ⟨rfl, hb⟩
      replace A : Below W.heap.size W w1 := by (refine below_call ?_ hb; (repeat (first | (with_reducible exact Below.refl _ _) | (with_reducible assumption) | (with_reducible refine Near.up _ ?_) | (with_reducible refine Below.drew ?_) | (with_reducible refine below_alloc_on ?_ _) | (with_reducible refine below_set_on ?_ (by first | (simp; done) | (simp; omega) | omega) _))))
      clear hb
      have z_w1 : W.heap.size ≤ w1.heap.size := A.size
      go_wp2_with (fail)
      refine (HY.out _).mono ?_
      rintro e w2 ⟨rfl, hb⟩
      replace A : Below W.heap.size W w2 := by (refine below_call ?_ hb; (repeat (first | (with_reducible exact Below.refl _ _) | (with_reducible assumption) | (with_reducible refine Near.up _ ?_) | (with_reducible refine Below.drew ?_) | (with_reducible refine below_alloc_on ?_ _) | (with_reducible refine below_set_on ?_ (by first | (simp; done) | (simp; omega) | omega) _))))
      clear hb
      have z_w2 : W.heap.size ≤ w2.heap.size := A.size
      go_wp2_with ((first | (go_at_call 17; refine (vr_zag _ _).mono ?_; rintro e w' ⟨rfl, rfl⟩) | (go_at_call 15; refine (vr_zig _ _).mono ?_; rintro e w' ⟨rfl, rfl⟩)))
      refine (law51_awake _).mono ?_
      rintro e w3 ⟨rfl, hb⟩
      replace A : Below W.heap.size W w3 := by (refine below_call ?_ hb; (repeat (first | (with_reducible exact Below.refl _ _) | (with_reducible assumption) | (with_reducible refine Near.up _ ?_) | (with_reducible refine Below.drew ?_) | (with_reducible refine below_alloc_on ?_ _) | (with_reducible refine below_set_on ?_ (by first | (simp; done) | (simp; omega) | omega) _))))
      clear hb
      have z_w3 : W.heap.size ≤ w3.heap.size := A.size
      go_wp2
      all_goals go_ret
      all_goals exact ⟨rfl, A⟩
    · have t1 : decide ((Y : Int) < (X : Int)) = false := decide_eq_false (by omega)
      have h2 := hm1 h
      have t3 : decide ((S.size : Int) ≤ (T.size : Int)) = true := decide_eq_true (by omega)
      go_wp2_with (fail)
      refine (HX.out _).mono ?_
      rintro e w1 ⟨rfl, hb⟩
      replace A : Below W.heap.size W w1 := by (refine below_call ?_ hb; (repeat (first | (with_reducible exact Below.refl _ _) | (with_reducible assumption) | (with_reducible refine Near.up _ ?_) | (with_reducible refine Below.drew ?_) | (with_reducible refine below_alloc_on ?_ _) | (with_reducible refine below_set_on ?_ (by first | (simp; done) | (simp; omega) | omega) _))))
      clear hb
      have z_w1 : W.heap.size ≤ w1.heap.size := A.size
      go_wp2_with (fail)
      refine (HY.out _).mono ?_
      rintro e w2 ⟨rfl, hb⟩
      replace A : Below W.heap.size W w2 := by (refine below_call ?_ hb; (repeat (first | (with_reducible exact Below.refl _ _) | (with_reducible assumption) | (with_reducible refine Near.up _ ?_) | (with_reducible refine Below.drew ?_) | (with_reducible refine below_alloc_on ?_ _) | (with_reducible refine below_set_on ?_ (by first | (simp; done) | (simp; omega) | omega) _))))
      clear hb
      have z_w2 : W.heap.size ≤ w2.heap.size := A.size
      go_wp2_with ((first | (go_at_call 17; refine (vr_zag _ _).mono ?_; rintro e w' ⟨rfl, rfl⟩) | (go_at_call 15; refine (vr_zig _ _).mono ?_; rintro e w' ⟨rfl, rfl⟩)))
      refine (law51_awake _).mono ?_
      rintro e w3 ⟨rfl, hb⟩
      replace A : Below W.heap.size W w3 := by (refine below_call ?_ hb; (repeat (first | (with_reducible exact Below.refl _ _) | (with_reducible assumption) | (with_reducible refine Near.up _ ?_) | (with_reducible refine Below.drew ?_) | (with_reducible refine below_alloc_on ?_ _) | (with_reducible refine below_set_on ?_ (by first | (simp; done) | (simp; omega) | omega) _))))
      clear hb
      have z_w3 : W.heap.size ≤ w3.heap.size := A.size
      go_wp2
      all_goals go_ret
      all_goals exact ⟨rfl, A⟩

set_option maxRecDepth 100000 in
theorem lifted (os : Os) (started : os.Started) (H : Type) (enc : TypeId × Value → H) :
    ReturnsInHanded {} Try.checked os 5 .any (Rows.varintRisesSpec.pre6 enc Try.prog Try.f5 Rows.varintRisesRow.domain false) (Rows.varintRisesSpec.post enc Try.prog Try.f5 false true false false) := by
  refine law_lift started (by kernel_rfl) Try.func5 rfl rfl ?_ (by kernel_rfl)
    (ChangeSpec.witness6 (enc := enc) (C := Try.checked) false ⟨#[], #[.int .i64 0, .int .i64 0], []⟩ 8 (by kernel_rfl) (by kernel_rfl) (by kernel_rfl) (by kernel_rfl)) ?_
  · intro ds hl
    match ds, hl with
    | [_, _], _ => exact ⟨rfl, rfl, rfl⟩
  · intro W base args ds p hval hA hlt hwt
    rw [Try.params5] at hA hval hwt
    obtain ⟨v0, vs0, d0, ds0, p0, q0, hargs, rfl, rfl, h0, r0⟩ := trodAll_cons hA
    obtain ⟨v1, vs1, d1, ds1, p1, q1, rfl, rfl, rfl, h1, r1⟩ := trodAll_cons r0
    obtain ⟨rfl, rfl, rfl⟩ := trodAll_nil r1
    obtain rfl : args = #[v0, v1] := by cases args; simp_all
    obtain ⟨a0, rfl, rfl, rfl, w0⟩ := open_int Try.underlying3 (hval 0 3 v0 rfl rfl) h0
    obtain ⟨a1, rfl, rfl, rfl, w1⟩ := open_int Try.underlying3 (hval 1 3 v1 rfl rfl) h1
    exact walk a0 w0 a1 w1 W

theorem over : Rows.varintRisesRow.holds Try.pinned (OpenSpec.ofChange Rows.varintRisesSpec) :=
  OpenClaim.holds_of_wide 5 Try.f5 rfl rfl rfl rfl rfl rfl rfl ⟨rfl, rfl, rfl, rfl, rfl⟩ rfl rfl rfl rfl rfl (by kernel_rfl) Try.func5 (by kernel_rfl)
    (of_decide_eq_true (by kernel_rfl)) (by unfold Func.isWrapper; first | (rw [if_pos (by decide +kernel)]; kernel_rfl) | (rw [if_neg (by decide +kernel)]; exact ⟨rfl, rfl⟩))
    (fun os started H enc _ => lifted os started H enc)

theorem proved : Rows.VarintRisesSaid := over
#print axioms proved
end Go.Proofs.Ythijabhnmjbboaa.varintRises
