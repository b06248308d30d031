/- AlarmLasts holds of every age, silence, and span: silence lasts for six thousand ticks; what is of the middle level for three thousand is of the highest one from then on. No condition. -/
import Derived.Test.YthfipnccjnekfaaAlarm
import Derived.Test.YthfipnccjnekfaaLeaf
import Derived.Test.YthfipnccjnekfaaArr
import Derived.Deep.CutBlock
import Derived.Deep.LoopGhost
namespace Go.Proofs.Ythfipnccjnekfaa.alarmLasts
open Go.ChangeShapes Go.WideShapes Go.ChangeAt Go.RowKit Go.Deep
set_option linter.unusedVariables false
attribute [local go_sem] cell_set_ite Near.cell Near.frozen

/-- What is left of the silence behind j ticks. -/
def quV (y : Int) (j : Nat) : Int := if y ≤ j then 0 else y - j
theorem qu_bd {y : Int} {j : Nat} (y0 : 0 ≤ y) (y1 : y ≤ 6000) : 0 ≤ quV y j ∧ quV y j ≤ 6000 := by unfold quV; split <;> omega
/-- The tick behind j of them. -/
theorem tick_is {x y l : Int} {j : Nat} (hl : l = 0 ∨ l = 1) (x0 : 0 ≤ x) (x1 : x ≤ 549755813887) (y0 : 0 ≤ y) (y1 : y ≤ 6000) (hj : j ≤ 300) :
    alA (x + j) (2 + l) = x + (j + 1) ∧ alS (quV y j) (2 + l) false false = quV y (j + 1) ∧ alT (x + j) (2 + l) = (if 3000 ≤ x + (j + 1) then 3 else 2 + l) ∧ alC (x + j) (quV y j) (2 + l) false false = (if 0 < quV y (j + 1) then alT (x + j) (2 + l) - 2 else alT (x + j) (2 + l)) := by
  have hN : alN (2 + l) = 2 + l := by unfold alN; omega
  have hM : moV (x + j) = x + (j + 1) := by unfold moV; omega
  have hS : siV (quV y j) false false = quV y (j + 1) := by
    unfold siV quV
    rw [if_neg (by simp), if_neg (by simp)]
    split <;> split <;> omega
  have hT : shV (x + (j + 1)) (2 + l) = (if 3000 ≤ x + (j + 1) then 3 else 2 + l) := by
    unfold shV
    rcases hl with rfl | rfl
    · by_cases h : 3000 ≤ x + ((j : Int) + 1)
      · rw [if_pos ⟨rfl, h⟩, if_pos h]
      · rw [if_neg (fun k => h k.2), if_neg h]
    · rw [if_neg (by omega)]
      split <;> rfl
  have hz : ¬ alN (2 + l) = 0 := by omega
  unfold alA alS alT alC
  simp only [if_neg hz]
  rw [hN, hM, hS, hT]
  refine ⟨rfl, rfl, rfl, ?_⟩
  have hq := qu_bd (j := j + 1) y0 y1
  generalize quV y (j + 1) = Z at *
  unfold csV
  by_cases hz : 0 < Z
  · rw [if_neg (by omega), if_pos hz]
    split <;> split <;> omega
  · rw [if_pos (by omega), if_neg hz]

set_option maxRecDepth 100000 in
set_option maxHeartbeats 4000000 in
theorem way (W : World) (a b p q : Int) (a0 : 0 ≤ a) (a1 : a ≤ 18446744073709551615) (b0 : 0 ≤ b) (b1 : b ≤ 65535) (p0 : 0 ≤ p) (p1 : p ≤ 255) (q0 : 0 ≤ q) (q1 : q ≤ 255) :
    Calls Try.prog 11 #[.int .u64 a, .int .u16 b, .agg #[.int .u8 p, .int .u8 q]] W fun e W' => e = .returned (.bool true) ∧ Below W.heap.size W W' := by
  have A : Below W.heap.size W W := Below.refl _ _
  obtain ⟨x, hx⟩ : ∃ x, a / 33554432 = x := ⟨_, rfl⟩
  obtain ⟨y, hy⟩ : ∃ y, b % 6001 = y := ⟨_, rfl⟩
  obtain ⟨l, hl⟩ : ∃ l, q % 2 = l := ⟨_, rfl⟩
  have x0 : 0 ≤ x := by omega
  have x1 : x ≤ 549755813887 := by omega
  have y0 : 0 ≤ y := by omega
  have y1 : y ≤ 6000 := by omega
  have hl2 : l = 0 ∨ l = 1 := by omega
  have P := box_new W #[.int .u8 p, .int .u8 q] 60
  obtain ⟨lP, cP, fP⟩ := id P
  go_enter Try.func11, Try.ntmps11
  go_upto_block 0 with fail
  simp only [hy]
  replace A := below_alloc_on (below_alloc_on A (.cells #[.int .u8 p, .int .u8 q] 60)) (.cells #[.int .i64 x, .int .i64 y] 49)
  replace P := P.alloc (.cells #[.int .i64 x, .int .i64 y] 49)
  have B := box_at (W.alloc (.cells #[.int .u8 p, .int .u8 q] 60)) #[.int .i64 x, .int .i64 y] 49 (g := W.heap.size + 1) (by simp)
  generalize (W.alloc (.cells #[.int .u8 p, .int .u8 q] 60)).alloc (.cells #[.int .i64 x, .int .i64 y] 49) = w1 at *
  clear lP cP fP hx hy hl
  obtain ⟨N, hN⟩ : ∃ N : Nat, p = (N : Int) := ⟨p.toNat, by omega⟩
  subst hN
  go_wp2_with (fail)
  go_loopg [11] N (fun g i wr => ∃ j : Nat, j ≤ N ∧ g = N - j ∧ i = .int .i64 (j + 1) ∧ Below W.heap.size W wr ∧ Box wr W.heap.size #[.int .u8 N, .int .u8 q] ∧ Box wr (W.heap.size + 1) #[.int .i64 (x + j), .int .i64 (quV y j)])
  case atStart => exact ⟨0, Nat.zero_le _, rfl, rfl, A, P, by rw [show quV y 0 = y by unfold quV; split <;> omega]; simpa using B⟩
  case round =>
    clear A B P
    obtain ⟨j, hj, rfl, rfl, A, P, B⟩ := hrel
    have j1 : j ≤ 255 := by omega
    obtain ⟨lP, cP, fP⟩ := id P
    obtain ⟨lB, cB, fB⟩ := id B
    by_cases hlt : j < N
    · obtain ⟨e1, e2, e3, e4⟩ := tick_is (y := y) (j := j) hl2 x0 x1 y0 y1 (by omega)
      have HS := Lib.hid (fun w => al_step (x + j) (quV y j) (2 + l) false false w)
      rw [e4, e1, e2, e3] at HS
      clear e1 e2 e3 e4
      have hq := qu_bd (j := j + 1) y0 y1
      obtain ⟨Z, hZ⟩ : ∃ Z, quV y (j + 1) = Z := ⟨_, rfl⟩
      have hm : (if y - ((j : Int) + 1) < 0 then 0 else y - ((j : Int) + 1)) = Z := by rw [← hZ]; unfold quV; split <;> split <;> omega
      rw [hZ] at HS hq
      have HZ := Lib.hid hZ
      clear hZ
      by_cases h3 : 3000 ≤ x + ((j : Int) + 1)
      all_goals by_cases hz : 0 < Z
      all_goals
        first
          | rw [if_pos h3] at HS
          | rw [if_neg h3] at HS
        first
          | rw [if_pos hz] at HS
          | rw [if_neg hz] at HS
        go_wp2_with (fail)
        refine (HS.out _).mono ?_
        rintro e w2 ⟨rfl, hb⟩
        replace A : Below W.heap.size W w2 := by (refine below_call ?_ hb; (repeat (first | (with_reducible exact Below.refl _ _) | (with_reducible assumption) | (with_reducible refine Near.up _ ?_) | (with_reducible refine Below.drew ?_) | (with_reducible refine below_alloc_on ?_ _) | (with_reducible refine below_set_on ?_ (by first | (simp; done) | (simp; omega) | omega) _))))
        replace P := Box.below (g := W.heap.size) (by (repeat (first | (with_reducible assumption) | (with_reducible exact box_new _ _ _) | ((with_reducible apply box_at); (first | (with_reducible rfl) | (simp <;> omega))) | (with_reducible apply Box.drew) | (with_reducible apply Box.drewN) | (with_reducible apply Box.near) | (with_reducible apply Box.alloc) | ((with_reducible apply box_far); (first | assumption | omega | (simp <;> omega))) | (with_reducible apply Box.set) | (simp only [List.size_toArray, List.length_cons, List.length_nil, Array.size_setIfInBounds] <;> omega)))) hb
        (try simp only [List.setIfInBounds_toArray, List.set_cons_zero, List.set_cons_succ] at P)
        (try clear cP fP)
        replace B := Box.below (g := W.heap.size + 1) (by (repeat (first | (with_reducible assumption) | (with_reducible exact box_new _ _ _) | ((with_reducible apply box_at); (first | (with_reducible rfl) | (simp <;> omega))) | (with_reducible apply Box.drew) | (with_reducible apply Box.drewN) | (with_reducible apply Box.near) | (with_reducible apply Box.alloc) | ((with_reducible apply box_far); (first | assumption | omega | (simp <;> omega))) | (with_reducible apply Box.set) | (simp only [List.size_toArray, List.length_cons, List.length_nil, Array.size_setIfInBounds] <;> omega)))) hb
        (try simp only [List.setIfInBounds_toArray, List.set_cons_zero, List.set_cons_succ] at B)
        (try clear cB fB)
        clear hb
        have z_w2 : W.heap.size ≤ w2.heap.size := A.size
        obtain ⟨lP_w2, cP, fP⟩ := id P
        obtain ⟨lB_w2, cB, fB⟩ := id B
        go_wp2
        all_goals
          go_roundg (N - (j + 1))
          case rel => exact ⟨j + 1, by omega, rfl, by go_num, by (repeat (first | (with_reducible exact Below.refl _ _) | (with_reducible assumption) | (with_reducible refine Near.up _ ?_) | (with_reducible refine Below.drew ?_) | (with_reducible refine below_alloc_on ?_ _) | (with_reducible refine below_set_on ?_ (by first | (simp; done) | (simp; omega) | omega) _))), by (repeat (first | (with_reducible assumption) | (with_reducible exact box_new _ _ _) | ((with_reducible apply box_at); (first | (with_reducible rfl) | (simp <;> omega))) | (with_reducible apply Box.drew) | (with_reducible apply Box.drewN) | (with_reducible apply Box.near) | (with_reducible apply Box.alloc) | ((with_reducible apply box_far); (first | assumption | omega | (simp <;> omega))) | (with_reducible apply Box.set) | (simp only [List.size_toArray, List.length_cons, List.length_nil, Array.size_setIfInBounds] <;> omega))), by rw [HZ.out]; exact B.two_set _ _⟩
          case measure => omega
    · obtain rfl : j = N := by omega
      have n1 : alN (2 + l) ≠ 0 := by unfold alN; omega
      have e1 : alS (quV y j) (2 + l) false true = 6000 := by unfold alS siV; rw [if_neg n1]; rfl
      have e2 : alS (quV y j) (2 + l) true true = 0 := by unfold alS siV; rw [if_neg n1]; rfl
      have e3 : alA (x + j) 0 = 0 := by unfold alA; rfl
      have e4 : alS (quV y j) 0 false true = 0 := by unfold alS; rfl
      have e5 : alT (x + j) 0 = 0 := by unfold alT; rfl
      have e6 : alC (x + j) (quV y j) 0 false true = 0 := by unfold alC; rfl
      clear n1 hlt
      go_wp2_with (fail)
      refine (al_step _ _ _ _ _ _).mono ?_
      rintro e w2 ⟨rfl, hb⟩
      replace A : Below W.heap.size W w2 := by (refine below_call ?_ hb; (repeat (first | (with_reducible exact Below.refl _ _) | (with_reducible assumption) | (with_reducible refine Near.up _ ?_) | (with_reducible refine Below.drew ?_) | (with_reducible refine below_alloc_on ?_ _) | (with_reducible refine below_set_on ?_ (by first | (simp; done) | (simp; omega) | omega) _))))
      replace B := Box.below (g := W.heap.size + 1) (by (repeat (first | (with_reducible assumption) | (with_reducible exact box_new _ _ _) | ((with_reducible apply box_at); (first | (with_reducible rfl) | (simp <;> omega))) | (with_reducible apply Box.drew) | (with_reducible apply Box.drewN) | (with_reducible apply Box.near) | (with_reducible apply Box.alloc) | ((with_reducible apply box_far); (first | assumption | omega | (simp <;> omega))) | (with_reducible apply Box.set) | (simp only [List.size_toArray, List.length_cons, List.length_nil, Array.size_setIfInBounds] <;> omega)))) hb
      (try simp only [List.setIfInBounds_toArray, List.set_cons_zero, List.set_cons_succ] at B)
      (try clear cB fB)
      clear hb
      have z_w2 : W.heap.size ≤ w2.heap.size := A.size
      obtain ⟨lB_w2, cB, fB⟩ := id B
      go_wp2_with (fail)
      refine (al_step _ _ _ _ _ _).mono ?_
      rintro e w3 ⟨rfl, hb⟩
      replace A : Below W.heap.size W w3 := by (refine below_call ?_ hb; (repeat (first | (with_reducible exact Below.refl _ _) | (with_reducible assumption) | (with_reducible refine Near.up _ ?_) | (with_reducible refine Below.drew ?_) | (with_reducible refine below_alloc_on ?_ _) | (with_reducible refine below_set_on ?_ (by first | (simp; done) | (simp; omega) | omega) _))))
      replace B := Box.below (g := W.heap.size + 1) (by (repeat (first | (with_reducible assumption) | (with_reducible exact box_new _ _ _) | ((with_reducible apply box_at); (first | (with_reducible rfl) | (simp <;> omega))) | (with_reducible apply Box.drew) | (with_reducible apply Box.drewN) | (with_reducible apply Box.near) | (with_reducible apply Box.alloc) | ((with_reducible apply box_far); (first | assumption | omega | (simp <;> omega))) | (with_reducible apply Box.set) | (simp only [List.size_toArray, List.length_cons, List.length_nil, Array.size_setIfInBounds] <;> omega)))) hb
      (try simp only [List.setIfInBounds_toArray, List.set_cons_zero, List.set_cons_succ] at B)
      (try clear cB fB)
      replace C := Box.below (g := w2.heap.size) (by (repeat (first | (with_reducible assumption) | (with_reducible exact box_new _ _ _) | ((with_reducible apply box_at); (first | (with_reducible rfl) | (simp <;> omega))) | (with_reducible apply Box.drew) | (with_reducible apply Box.drewN) | (with_reducible apply Box.near) | (with_reducible apply Box.alloc) | ((with_reducible apply box_far); (first | assumption | omega | (simp <;> omega))) | (with_reducible apply Box.set) | (simp only [List.size_toArray, List.length_cons, List.length_nil, Array.size_setIfInBounds] <;> omega)))) hb
      (try simp only [List.setIfInBounds_toArray, List.set_cons_zero, List.set_cons_succ] at C)
      (try clear cC fC)
      clear hb
      have z_w3 : W.heap.size ≤ w3.heap.size := A.size
      obtain ⟨lB_w3, cB, fB⟩ := id B
      obtain ⟨lC_w3, cC, fC⟩ := id C
      go_wp2_with (fail)
      refine (al_step _ _ _ _ _ _).mono ?_
      rintro e w4 ⟨rfl, hb⟩
      replace A : Below W.heap.size W w4 := by (refine below_call ?_ hb; (repeat (first | (with_reducible exact Below.refl _ _) | (with_reducible assumption) | (with_reducible refine Near.up _ ?_) | (with_reducible refine Below.drew ?_) | (with_reducible refine below_alloc_on ?_ _) | (with_reducible refine below_set_on ?_ (by first | (simp; done) | (simp; omega) | omega) _))))
      replace C := Box.below (g := w2.heap.size) (by (repeat (first | (with_reducible assumption) | (with_reducible exact box_new _ _ _) | ((with_reducible apply box_at); (first | (with_reducible rfl) | (simp <;> omega))) | (with_reducible apply Box.drew) | (with_reducible apply Box.drewN) | (with_reducible apply Box.near) | (with_reducible apply Box.alloc) | ((with_reducible apply box_far); (first | assumption | omega | (simp <;> omega))) | (with_reducible apply Box.set) | (simp only [List.size_toArray, List.length_cons, List.length_nil, Array.size_setIfInBounds] <;> omega)))) hb
      (try simp only [List.setIfInBounds_toArray, List.set_cons_zero, List.set_cons_succ] at C)
      (try clear cC fC)
      replace D := Box.below (g := w3.heap.size) (by (repeat (first | (with_reducible assumption) | (with_reducible exact box_new _ _ _) | ((with_reducible apply box_at); (first | (with_reducible rfl) | (simp <;> omega))) | (with_reducible apply Box.drew) | (with_reducible apply Box.drewN) | (with_reducible apply Box.near) | (with_reducible apply Box.alloc) | ((with_reducible apply box_far); (first | assumption | omega | (simp <;> omega))) | (with_reducible apply Box.set) | (simp only [List.size_toArray, List.length_cons, List.length_nil, Array.size_setIfInBounds] <;> omega)))) hb
      (try simp only [List.setIfInBounds_toArray, List.set_cons_zero, List.set_cons_succ] at D)
      (try clear cD fD)
      clear hb
      have z_w4 : W.heap.size ≤ w4.heap.size := A.size
      obtain ⟨lC_w4, cC, fC⟩ := id C
      obtain ⟨lD_w4, cD, fD⟩ := id D
      go_wp2_with (fail)
      refine (law41_awake _).mono ?_
      rintro e w5 ⟨rfl, hb⟩
      replace A : Below W.heap.size W w5 := by (refine below_call ?_ hb; (repeat (first | (with_reducible exact Below.refl _ _) | (with_reducible assumption) | (with_reducible refine Near.up _ ?_) | (with_reducible refine Below.drew ?_) | (with_reducible refine below_alloc_on ?_ _) | (with_reducible refine below_set_on ?_ (by first | (simp; done) | (simp; omega) | omega) _))))
      clear hb
      have z_w5 : W.heap.size ≤ w5.heap.size := A.size
      go_wp2
      all_goals go_ret
      all_goals exact ⟨rfl, A⟩

theorem walk (a : Int) (wa : (Lit.int .u64 a).wf = true) (b : Int) (wb : (Lit.int .u16 b).wf = true) (p : Int) (wp : (Lit.int .u8 p).wf = true) (q : Int) (wq : (Lit.int .u8 q).wf = true) (W : World) :
    Calls Try.prog 11 #[.int .u64 a, .int .u16 b, .agg #[.int .u8 p, .int .u8 q]] W fun e W' => e = .returned (.bool true) ∧ Below W.heap.size W W' := by
  simp only [Lit.wf, IntKind.min, IntKind.max, IntKind.signed, IntKind.bits, Bool.and_eq_true] at wa wb wp wq
  simp at wa wb wp wq
  exact way W a b p q (by omega) (by omega) (by omega) (by omega) (by omega) (by omega) (by omega) (by omega)

theorem lifted (os : Os) (started : os.Started) (H : Type) (enc : TypeId × Value → H) :
    ReturnsInHanded {} Try.checked os 11 .any (Rows.alarmLastsSpec.pre6 enc Try.prog Try.f11 Rows.alarmLastsRow.domain false) (Rows.alarmLastsSpec.post enc Try.prog Try.f11 false true false false) := by
  refine law_lift started (by kernel_rfl) Try.func11 rfl rfl ?_ (by kernel_rfl)
    (ChangeSpec.witness6 (enc := enc) (C := Try.checked) false ⟨#[], #[.int .u64 0, .int .u16 0, .agg #[.int .u8 0, .int .u8 0]], []⟩ 8 (by kernel_rfl) (by kernel_rfl) (by kernel_rfl) (by kernel_rfl)) ?_
  · intro ds hl
    match ds, hl with
    | [_, _, _], _ => exact ⟨rfl, rfl, rfl⟩
  · intro W base args ds p hval hA hlt hwt
    rw [Try.params11] at hA hval hwt
    obtain ⟨v0, vs0, d0, ds0, p0, q0, hargs, rfl, rfl, h0, r0⟩ := trodAll_cons hA
    obtain ⟨v1, vs1, d1, ds1, p1, q1, rfl, rfl, rfl, h1, r1⟩ := trodAll_cons r0
    obtain ⟨v2, vs2, d2, ds2, p2, q2, rfl, rfl, rfl, h2, r2⟩ := trodAll_cons r1
    obtain ⟨rfl, rfl, rfl⟩ := trodAll_nil r2
    obtain rfl : args = #[v0, v1, v2] := by cases args; simp_all
    obtain ⟨a0, rfl, rfl, rfl, w0⟩ := open_int Try.underlying59 (hval 0 59 v0 rfl rfl) h0
    obtain ⟨a1, rfl, rfl, rfl, w1⟩ := open_int Try.underlying31 (hval 1 31 v1 rfl rfl) h1
    obtain ⟨xs2, rfl, l2, w2⟩ := open_int_cells Try.underlying60 Try.underlying5 (by kernel_rfl) (by kernel_rfl) (hval 2 60 v2 rfl rfl) h2
    match xs2, l2, w2 with
    | [x2_0, x2_1], _, w2 =>
    exact walk a0 w0 a1 w1 x2_0 (w2 _ (by simp)) x2_1 (w2 _ (by simp)) W

theorem over : Rows.alarmLastsRow.holds Try.pinned (OpenSpec.ofChange Rows.alarmLastsSpec) :=
  OpenClaim.holds_of_wide 11 Try.f11 rfl rfl rfl rfl rfl rfl rfl ⟨rfl, rfl, rfl, rfl, rfl⟩ rfl rfl rfl rfl rfl (by kernel_rfl) Try.func11 (by kernel_rfl)
    (of_decide_eq_true (by kernel_rfl)) (by unfold Func.isWrapper; first | (rw [if_pos (by decide +kernel)]; kernel_rfl) | (rw [if_neg (by decide +kernel)]; exact ⟨rfl, rfl⟩))
    (fun os started H enc _ => lifted os started H enc)

theorem proved : Rows.AlarmLastsSaid := over
#print axioms proved
end Go.Proofs.Ythfipnccjnekfaa.alarmLasts
