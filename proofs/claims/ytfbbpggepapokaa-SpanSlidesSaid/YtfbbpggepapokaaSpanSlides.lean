/- SpanSlides holds of every list of numbers, any time and any two widths: side by side two spans are one. No condition. -/
import Derived.Test.YtfbbpggepapokaaLaw5
import Derived.Test.YtfbbpggepapokaaArr
namespace Go.Proofs.Ytfbbpggepapokaa.spanSlides
open Go.ChangeShapes Go.WideShapes Go.ChangeAt Go.RowKit
set_option linter.unusedVariables false

theorem near_none (xs : List Int) (now width : Int) (h : ∀ x, inV x now width = false) : cntI xs now width = 0 := by
  have : nearL xs now width = [] := by unfold nearL; rw [List.filter_eq_nil_iff]; intro x _; rw [h x]; simp
  unfold cntI; rw [this]; rfl
theorem near_sum (xs : List Int) (n a b : Int) (h : ∀ x, inV x n (a + b) = (inV x n a || inV x (n - a) b) ∧ ¬ (inV x n a = true ∧ inV x (n - a) b = true)) : cntI xs n (a + b) = cntI xs n a + cntI xs (n - a) b := by
  induction xs with
  | nil => rfl
  | cons x l ih =>
    have hx := h x
    unfold cntI nearL at *
    simp only [List.filter_cons]
    rw [hx.1]
    generalize inV x n a = p at *
    generalize inV x (n - a) b = q at *
    obtain ⟨_, hx⟩ := hx
    cases p <;> cases q <;> simp at hx ⊢ <;> omega

set_option maxRecDepth 100000 in
set_option maxHeartbeats 1000000 in
theorem walk (w : World) (A : Option Addr) (n c : Nat) (xs : List Int) (hi : Ints w A n xs) (hc : n ≤ c) (hr : n * 8 ≤ 140737488351232) (wx : ∀ x ∈ xs, (Lit.int .i64 x).wf = true) (t : Int) (wt : (Lit.int .i32 t).wf = true)
    (a : Int) (wa : (Lit.int .u16 a).wf = true) (b : Int) (wb : (Lit.int .u16 b).wf = true) :
    Calls Try.prog 4 #[.slice A n c, .int .i32 t, .agg #[.int .u16 a, .int .u16 b]] w fun e w' => e = .returned (.bool true) ∧ Below w.heap.size w w' := by
  clear wx
  have t0 : -2147483648 ≤ t ∧ t ≤ 2147483647 := by simp only [Lit.wf, IntKind.min, IntKind.max, IntKind.signed, IntKind.bits, Bool.and_eq_true] at wt; simpa using wt
  have a0 : 0 ≤ a ∧ a ≤ 65535 := by simp only [Lit.wf, IntKind.min, IntKind.max, IntKind.signed, IntKind.bits, Bool.and_eq_true] at wa; simpa using wa
  have b0 : 0 ≤ b ∧ b ≤ 65535 := by simp only [Lit.wf, IntKind.min, IntKind.max, IntKind.signed, IntKind.bits, Bool.and_eq_true] at wb; simpa using wb
  obtain ⟨t0, t1⟩ := t0
  obtain ⟨a0, a1⟩ := a0
  obtain ⟨b0, b1⟩ := b0
  obtain ⟨w1, hw1⟩ : ∃ w1, w.alloc (.cells #[.int .u16 a, .int .u16 b] 30) = w1 := ⟨_, rfl⟩
  have A1 : At w w1 := hw1 ▸ (Below.refl _ _).alloc (Nat.le_refl _) _
  by_cases hn : 200 < n
  · clear hi
    go_enter Try.func4, Try.ntmps4
    go_wp2_with (go_at_call 5; refine (law5_awake w _ A1).mono ?_; rintro e w' ⟨rfl, hb⟩)
    all_goals go_ret
    exact ⟨rfl, hb⟩
  · have C0 : w1.cell? ⟨w.heap.size, 0, none⟩ = some (.int .u16 a) := by rw [← hw1]; rw [World.cell?_alloc_at _ _ _ _ rfl]; rfl
    have C1 : w1.cell? ⟨w.heap.size, 1, none⟩ = some (.int .u16 b) := by rw [← hw1]; rw [World.cell?_alloc_at _ _ _ _ rfl]; rfl
    have HI := Lib.hid hi
    have s1 := near_sum xs t a b (fun x => by
      rw [inV_small x (by omega) (by omega) (by omega) (by omega), inV_small x (by omega) (by omega) (by omega) (by omega), inV_small x (by omega) (by omega) (by omega) (by omega)]
      generalize clV x = y
      refine ⟨by rw [Bool.eq_iff_iff]; simp; omega, by simp; omega⟩)
    have s2 := near_none xs t 0 (fun x => by rw [inV_small x (by omega) (by omega) (by omega) (by omega)]; simp)
    have s3 := near_none xs t (-a) (fun x => by rw [inV_small x (by omega) (by omega) (by omega) (by omega)]; simp; omega)
    have hl := hi.1
    obtain ⟨p0, p1⟩ := cnt_bd xs t a
    obtain ⟨q0, q1⟩ := cnt_bd xs (t - a) b
    have hK := fun (w' : World) (h : At w w') (u v : Int) => span_count A n c xs u v w' (HI.out.below h) (by omega)
    have hk1 := fun w' h => hK w' h t (a + b)
    have hk2 := fun w' h => hK w' h t a
    have hk3 := fun w' h => hK w' h (t - a) b
    have hk4 := fun w' h => hK w' h t 0
    have hk5 := fun w' h => hK w' h t (-a)
    rw [s1] at hk1
    rw [s2] at hk4
    rw [s3] at hk5
    rw [hl] at p1 q1
    clear hi hl s1 s2 s3 hK
    generalize cntI xs t a = P at *
    generalize cntI xs (t - a) b = Q at *
    have K1 := Lib.hid hk1
    have K2 := Lib.hid hk2
    have K3 := Lib.hid hk3
    have K4 := Lib.hid hk4
    have K5 := Lib.hid hk5
    have r1 : (P + Q == P + Q) = true := beq_self_eq_true _
    clear hk1 hk2 hk3 hk4 hk5
    go_enter Try.func4, Try.ntmps4
    go_wp2
    go_quiet (fail)
    have A2 : At w (w1.drewN nq) := A1.draws nq
    go_wp2_with (first
      | (go_at_call 8; ((with_reducible refine (K1.out _ A2).mono ?_)); rintro e w' ⟨rfl, rfl⟩)
      | (go_at_call 8; ((with_reducible refine (K2.out _ A2).mono ?_)); rintro e w' ⟨rfl, rfl⟩)
      | (go_at_call 8; ((with_reducible refine (K3.out _ A2).mono ?_)); rintro e w' ⟨rfl, rfl⟩)
      | (go_at_call 8; ((with_reducible refine (K4.out _ A2).mono ?_)); rintro e w' ⟨rfl, rfl⟩)
      | (go_at_call 8; ((with_reducible refine (K5.out _ A2).mono ?_)); rintro e w' ⟨rfl, rfl⟩)
      | (go_at_call 5; refine (law5_awake w _ A2).mono ?_; rintro e w' ⟨rfl, hb⟩))
    all_goals go_ret
    all_goals exact ⟨rfl, hb⟩

theorem lifted (os : Os) (started : os.Started) (H : Type) (enc : TypeId × Value → H) :
    ReturnsInHanded {} Try.checked os 4 .any (Rows.spanSlidesSpec.pre6 enc Try.prog Try.f4 Rows.spanSlidesRow.domain false) (Rows.spanSlidesSpec.post enc Try.prog Try.f4 false true false false) := by
  refine law_lift started (by kernel_rfl) Try.func4 rfl rfl ?_ (by kernel_rfl)
    (ChangeSpec.witness6 (enc := enc) (C := Try.checked) false ⟨#[], #[.slice none 0 0, .int .i32 0, .agg #[.int .u16 0, .int .u16 0]], []⟩ 8 (by kernel_rfl) (by kernel_rfl) (by kernel_rfl) (by kernel_rfl)) ?_
  · intro ds hl
    match ds, hl with
    | [_, _, _], _ => exact ⟨rfl, rfl, rfl⟩
  · intro W base args ds p hval hA hlt hwt
    rw [Try.params4] at hA hval hwt
    obtain ⟨v0, vs0, d0, ds0, p0, q0, hargs, rfl, rfl, h0, r0⟩ := trodAll_cons hA
    obtain ⟨v1, vs1, d1, ds1, p1, q1, rfl, rfl, rfl, h1, r1⟩ := trodAll_cons r0
    obtain ⟨v2, vs2, d2, ds2, p2, q2, rfl, rfl, rfl, h2, r2⟩ := trodAll_cons r1
    obtain ⟨rfl, rfl, rfl⟩ := trodAll_nil r2
    obtain rfl : args = #[v0, v1, v2] := by cases args; simp_all
    have wt0 : ∀ n ∈ d0.weights Try.prog 25, n ≤ reachBytes := fun n hn => by
      have := List.all_eq_true.1 hwt n (DataW.weights_mem_each (j := 0) (t := 25) (d := d0) rfl rfl n hn)
      simpa using this
    have lt0 : ∀ x ∈ p0, x.block < W.heap.size := fun x hx => hlt x (by simp [hx])
    obtain ⟨A0, n0, c0, xs0, rfl, hi0, hc0, hr0, w0⟩ := open_ints_arg Try.underlying25 Try.underlying3 (by kernel_rfl) (by kernel_rfl) (hval 0 25 v0 rfl rfl) h0 lt0 wt0
    obtain ⟨a1, rfl, rfl, rfl, w1⟩ := open_int Try.underlying21 (hval 1 21 v1 rfl rfl) h1
    obtain ⟨xs2, rfl, l2, w2⟩ := open_int_cells Try.underlying30 Try.underlying23 (by kernel_rfl) (by kernel_rfl) (hval 2 30 v2 rfl rfl) h2
    match xs2, l2, w2 with
    | [x2_0, x2_1], _, w2 =>
    exact walk W A0 n0 c0 xs0 hi0 hc0 hr0 w0 a1 w1 x2_0 (w2 _ (by simp)) x2_1 (w2 _ (by simp))

theorem over : Rows.spanSlidesRow.holds Try.pinned (OpenSpec.ofChange Rows.spanSlidesSpec) :=
  OpenClaim.holds_of_wide 4 Try.f4 rfl rfl rfl rfl rfl rfl rfl ⟨rfl, rfl, rfl, rfl, rfl⟩ rfl rfl rfl rfl rfl (by kernel_rfl) Try.func4 (by kernel_rfl)
    (of_decide_eq_true (by kernel_rfl)) (by unfold Func.isWrapper; first | (rw [if_pos (by decide +kernel)]; kernel_rfl) | (rw [if_neg (by decide +kernel)]; exact ⟨rfl, rfl⟩))
    (fun os started H enc _ => lifted os started H enc)

theorem proved : Rows.SpanSlidesSaid := over
#print axioms proved
end Go.Proofs.Ytfbbpggepapokaa.spanSlides
