/- QuotBack is true of any integers: what is multiplied and divided by the same is as it was; of small numbers it is the quotient of the product. -/
import Derived.Test.YtonlcpodedpnpaaQLaw
import Derived.Test.YtonlcpodedpnpaaLift
namespace Go.Proofs.Ytonlcpodedpnpaa.quotBack
open Go.ChangeShapes Go.WideShapes Go.ChangeAt Go.RowKit
set_option linter.unusedVariables false

theorem flo_back (x : Int) {y : Int} (hy : y ≠ 0) : flo (x * y) y = x :=
  flo_unique (m := 0) (by omega) (fun h => ⟨by omega, h⟩) (fun h => ⟨h, by omega⟩) hy
theorem clV_clV (n : Int) : clV (clV n) = clV n ∧ clB (clV n) = false := by
  have ⟨h0, h1⟩ := clV_bd n
  exact ⟨clV_in (by omega), clB_in (by omega)⟩
theorem back1 (a : Int) {b : Int} (hy : clV b ≠ 0) : mqV a b b = clV a ∧ mqE a b b = 0 := by
  unfold mqV mqE
  rw [if_neg hy, if_neg hy, flo_back _ hy, (clV_clV a).1, (clV_clV a).2]; exact ⟨rfl, rfl⟩
theorem back2 (a : Int) {b : Int} (hy : clV b ≠ 0) : mqV b a b = clV a ∧ mqE b a b = 0 := by
  unfold mqV mqE
  rw [if_neg hy, if_neg hy, Int.mul_comm, flo_back _ hy, (clV_clV a).1, (clV_clV a).2]; exact ⟨rfl, rfl⟩
theorem small {m n c : Int} (hm : m.natAbs ≤ 67108863) (hn : n.natAbs ≤ 67108863) (hc : c.natAbs ≤ 2147483648) :
    (m * n).natAbs ≤ 4503599493152769 ∧ mqV m n c = flV (m * n) c ∧ nzB c = decide (mqE m n c = 0) := by
  have hp : (m * n).natAbs ≤ 4503599493152769 := by rw [Int.natAbs_mul]; have := Nat.mul_le_mul hm hn; omega
  refine ⟨hp, ?_⟩
  unfold mqV flV nzB mqE
  rw [clV_in (n := m) (by omega), clV_in (n := n) (by omega), clV_in (n := c) (by omega), clV_in (n := m * n) (by omega)]
  by_cases h : c = 0
  · subst h; simp
  · have hb := flo_bd (x := m * n) h
    rw [if_neg h, if_neg h, clV_in (n := flo (m * n) c) (by omega), if_neg h, clB_in (n := flo (m * n) c) (by omega)]
    simp [h]
theorem tmod_small (x : Int) : (x.tmod 67108864).natAbs ≤ 67108863 := by
  rw [Int.natAbs_tmod]; have := Nat.mod_lt x.natAbs (y := 67108864) (by omega)
  rw [show (67108864 : Int).natAbs = 67108864 from rfl]; omega

theorem walk (a : Int) (wa : (Lit.int .i64 a).wf = true) (b : Int) (wb : (Lit.int .i64 b).wf = true) (c : Int) (wc : (Lit.int .i32 c).wf = true) (w : World) :
    Calls Try.prog 5 #[.int .i64 a, .int .i64 b, .int .i32 c] w fun e w' => e = .returned (.bool true) ∧ Below w.heap.size w w' := by
  have hb := At.refl w
  have ⟨ha0, ha1⟩ := clV_bd a
  have ⟨hb0, hb1⟩ := clV_bd b
  have hc0 : -2147483648 ≤ c ∧ c ≤ 2147483647 := by
    simp only [Lit.wf, IntKind.min, IntKind.max, IntKind.signed, IntKind.bits, Bool.and_eq_true, decide_eq_true_eq, if_true] at wc
    omega
  clear wa wb wc
  by_cases hy : clV b = 0
  · have ⟨e1, e2⟩ := mq_zero (a := a) (b := b) hy
    have ⟨e3, e4⟩ := mq_zero (a := b) (b := a) hy
    go_enter Try.func5, Try.ntmps5
    go_wp2_with (first
    | (go_at_call 16; refine (sat_clamp _ _).mono ?_; rintro e w' ⟨rfl, rfl⟩)
    | (go_at_call 7; refine (l_floor _ _ _ _ (by assumption)).mono ?_; rintro e w' ⟨rfl, hb⟩)
    | (go_at_call 13; refine (l_muldiv _ _ _ _ _ (by assumption)).mono ?_; rintro e w' ⟨rfl, hb⟩)
    | (go_at_call 15; refine (law2_awake _ _ (by assumption)).mono ?_; rintro e w' ⟨rfl, hb⟩))
    all_goals go_ret
    all_goals exact ⟨rfl, hb⟩
  · have ⟨e1, e2⟩ := back1 a hy
    have ⟨e3, e4⟩ := back2 a hy
    have hz0 : (clV b == 0) = false := by simpa using hy
    obtain ⟨m, hm⟩ : ∃ m, (clV a).tmod 67108864 = m := ⟨_, rfl⟩
    obtain ⟨n, hn⟩ : ∃ n, (clV b).tmod 67108864 = n := ⟨_, rfl⟩
    have hm1 := tmod_small (clV a)
    have hn1 := tmod_small (clV b)
    rw [hm] at hm1
    rw [hn] at hn1
    have ⟨p, e5, e6⟩ := small (c := c) hm1 hn1 (by omega)
    go_enter Try.func5, Try.ntmps5
    go_wp2_with (first
    | (go_at_call 16; refine (sat_clamp _ _).mono ?_; rintro e w' ⟨rfl, rfl⟩)
    | (go_at_call 7; refine (l_floor _ _ _ _ (by assumption)).mono ?_; rintro e w' ⟨rfl, hb⟩)
    | (go_at_call 13; refine (l_muldiv _ _ _ _ _ (by assumption)).mono ?_; rintro e w' ⟨rfl, hb⟩)
    | (go_at_call 15; refine (law2_awake _ _ (by assumption)).mono ?_; rintro e w' ⟨rfl, hb⟩))
    all_goals go_ret
    all_goals exact ⟨rfl, hb⟩

theorem lifted (os : Os) (started : os.Started) (H : Type) (enc : TypeId × Value → H) :
    ReturnsInHanded {} Try.checked os 5 .any (Rows.quotBackSpec.pre6 enc Try.prog Try.f5 Rows.quotBackRow.domain false) (Rows.quotBackSpec.post enc Try.prog Try.f5 false true false false) := by
  refine law_lift started (by kernel_rfl) Try.func5 rfl rfl ?_ (by kernel_rfl)
    (ChangeSpec.witness6 (enc := enc) (C := Try.checked) false ⟨#[], #[.int .i64 0, .int .i64 0, .int .i32 0], []⟩ 8 (by kernel_rfl) (by kernel_rfl) (by kernel_rfl) (by kernel_rfl)) ?_
  · intro ds hl
    match ds, hl with
    | [_, _, _], _ => exact ⟨rfl, rfl, rfl⟩
  · intro W base args ds p hval hA hlt hwt
    rw [Try.params5] at hA hval hwt
    obtain ⟨v0, vs0, d0, ds0, p0, q0, hargs, rfl, rfl, h0, r0⟩ := trodAll_cons hA
    obtain ⟨v1, vs1, d1, ds1, p1, q1, rfl, rfl, rfl, h1, r1⟩ := trodAll_cons r0
    obtain ⟨v2, vs2, d2, ds2, p2, q2, rfl, rfl, rfl, h2, r2⟩ := trodAll_cons r1
    obtain ⟨rfl, rfl, rfl⟩ := trodAll_nil r2
    obtain rfl : args = #[v0, v1, v2] := by cases args; simp_all
    obtain ⟨a0, rfl, rfl, rfl, w0⟩ := open_int Try.underlying3 (hval 0 3 v0 rfl rfl) h0
    obtain ⟨a1, rfl, rfl, rfl, w1⟩ := open_int Try.underlying3 (hval 1 3 v1 rfl rfl) h1
    obtain ⟨a2, rfl, rfl, rfl, w2⟩ := open_int Try.underlying21 (hval 2 21 v2 rfl rfl) h2
    exact walk a0 w0 a1 w1 a2 w2 W

theorem over : Rows.quotBackRow.holds Try.pinned (OpenSpec.ofChange Rows.quotBackSpec) :=
  OpenClaim.holds_of_wide 5 Try.f5 rfl rfl rfl rfl rfl rfl rfl ⟨rfl, rfl, rfl, rfl, rfl⟩ rfl rfl rfl rfl rfl (by kernel_rfl) Try.func5 (by kernel_rfl)
    (of_decide_eq_true (by kernel_rfl)) (by unfold Func.isWrapper; first | (rw [if_pos (by decide +kernel)]; kernel_rfl) | (rw [if_neg (by decide +kernel)]; exact ⟨rfl, rfl⟩))
    (fun os started H enc _ => lifted os started H enc)

theorem proved : Rows.QuotBackSaid := over
#print axioms proved
end Go.Proofs.Ytonlcpodedpnpaa.quotBack
