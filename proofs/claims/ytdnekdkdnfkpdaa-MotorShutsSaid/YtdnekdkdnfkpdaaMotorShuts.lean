/- MotorShuts holds of every motor: from wherever, when it is to be closed, it is, in time, and stays so. No condition. -/
import Derived.Test.YtdnekdkdnfkpdaaLaw12
import Derived.Test.YtdnekdkdnfkpdaaLeaf
namespace Go.Proofs.Ytdnekdkdnfkpdaa.motorShuts
open Go.ChangeShapes Go.WideShapes Go.ChangeAt Go.RowKit
set_option linter.unusedVariables false
attribute [local go_sem] cell_set_ite

set_option maxHeartbeats 2000000 in
theorem walk (p : Int) (wp : (Lit.int .i64 p).wf = true) (k : Int) (wk : (Lit.int .i64 k).wf = true) (v : Int) (wv : (Lit.int .u8 v).wf = true) (W : World) :
    Calls Try.prog 4 #[.agg #[.int .i64 p, .int .i64 k], .int .u8 v] W fun e W' => e = .returned (.bool true) ∧ Below W.heap.size W W' := by
  have v0 : 0 ≤ v ∧ v ≤ 255 := by simp only [Lit.wf, IntKind.min, IntKind.max, IntKind.signed, IntKind.bits, Bool.and_eq_true] at wv; simpa using wv
  obtain ⟨m, rfl⟩ := Int.eq_ofNat_of_zero_le v0.1
  have m1 : m ≤ 255 := by omega
  obtain ⟨n0, n1⟩ := lf_bd p k
  obtain ⟨N, hN⟩ : ∃ N : Nat, lfV p k = N := ⟨(lfV p k).toNat, by omega⟩
  have N1 : N ≤ 320 := by omega
  have HN := Lib.hid hN
  have HL := Lib.hid (fun w => mo_left p k w)
  rw [hN] at HL
  clear wp wk wv v0 n0 n1 hN
  have A0 : Below W.heap.size W W := Below.refl _ _
  go_enter Try.func4, Try.ntmps4
  go_wp2_with (fail)
  refine (HL.out _).mono ?_
  rintro e w1 ⟨rfl, hb⟩
  have B1 := (box_new W _ _).below hb
  have A1 := below_call (below_alloc_on A0 _) hb
  clear hb A0
  obtain ⟨c0, c1, cf, cl⟩ := B1.two
  go_wp2
  go_loopw [20] (fun i wr => ∃ (j : Nat) (P H : Int), j ≤ N ∧ i = .int .i64 j ∧ Below W.heap.size W wr ∧ Box wr W.heap.size #[.int .i64 P, .int .i64 H] ∧ lfV P H = ((N - j : Nat) : Int)) (fun i _ => N - (intOf i).toNat)
  case atStart => exact ⟨0, p, k, Nat.zero_le _, rfl, A1, B1, HN.out⟩
  case round =>
    clear A1 B1 c0 c1 cf cl HN
    obtain ⟨j, P, H, hj, rfl, A1, B1, hl⟩ := hrel
    have hs := lf_step (p := P) (h := H) (w := 0) (by omega)
    have hc := cd_lf P H
    rw [hl] at hs hc
    obtain ⟨c0, c1, cf, cl⟩ := B1.two
    by_cases hlt : j < N
    · rw [if_neg (by omega)] at hs
      rw [decide_eq_false (by omega)] at hc
      have hs2 : lfV (stP P H 0) (stH H) = ((N - (j + 1) : Nat) : Int) := by omega
      have HC := Lib.hid (fun w => mo_closed P H w)
      rw [hc] at HC
      have HL2 := Lib.hid (fun w => mo_left (stP P H 0) (stH H) w)
      rw [hs2] at HL2
      have HS2 := Lib.hid hs2
      have t1 : (((N - (j + 1) : Nat) : Int) != (N : Int) - 1 - (j : Int)) = false := by simp; omega
      clear hs hc hl hs2
      go_wp2_with (fail)
      refine (HC.out _).mono ?_
      rintro e w2 ⟨rfl, hb⟩
      have A2 := below_call A1 hb
      have B2 := B1.below hb
      clear hb B1 A1 c0 c1 cf cl
      obtain ⟨c0, c1, cf, cl⟩ := B2.two
      go_wp2_with (fail)
      refine (mo_step _ _ _ _).mono ?_
      rintro e w3 ⟨rfl, hb⟩
      have A3 := below_call A2 hb
      have B3 := B2.below hb
      clear hb B2 A2 c0 c1 cf cl
      obtain ⟨c0, c1, cf, cl⟩ := B3.two
      go_wp2_with (fail)
      refine (HL2.out _).mono ?_
      rintro e w4 ⟨rfl, hb⟩
      have A4 := below_call (below_set_on (below_set_on A3 (p := ⟨W.heap.size, 0, none⟩) (Nat.le_refl _) _) (p := ⟨W.heap.size, 1, none⟩) (Nat.le_refl _) _) hb
      have B4 := (B3.two_set _ _).below hb
      clear hb B3 A3 c0 c1 cf cl
      go_wp2
      go_roundw
      case rel => exact ⟨j + 1, _, _, by omega, by go_num, A4, B4, HS2.out⟩
      case measure => simp [intOf]; omega
    · obtain rfl : j = N := by omega
      rw [show j - j = 0 by omega] at hl
      have HLL := Lib.hid hl
      clear hl hs hc
      go_wp2
      go_loopw [37] (fun i wr => ∃ (q : Nat) (P H : Int), q ≤ m ∧ i = .int .i64 q ∧ Below W.heap.size W wr ∧ Box wr W.heap.size #[.int .i64 P, .int .i64 H] ∧ lfV P H = 0) (fun i _ => m - (intOf i).toNat)
      case atStart => exact ⟨0, P, H, Nat.zero_le _, rfl, A1, B1, HLL.out⟩
      case round =>
        clear A1 B1 c0 c1 cf cl HLL
        obtain ⟨q, P, H, hq, rfl, A1, B1, hl⟩ := hrel
        have hs := lf_step (p := P) (h := H) (w := -(m : Int)) (by omega)
        have hc := cd_lf P H
        rw [hl, if_pos rfl] at hs
        rw [hl, decide_eq_true rfl] at hc
        obtain ⟨c0, c1, cf, cl⟩ := B1.two
        have HC := Lib.hid (fun w => mo_closed P H w)
        rw [hc] at HC
        have HS := Lib.hid hs
        clear hs hc hl
        by_cases hlt : q < m
        · go_wp2_with (fail)
          refine (HC.out _).mono ?_
          rintro e w2 ⟨rfl, hb⟩
          have A2 := below_call A1 hb
          have B2 := B1.below hb
          clear hb B1 A1 c0 c1 cf cl
          obtain ⟨c0, c1, cf, cl⟩ := B2.two
          go_wp2_with (fail)
          refine (mo_step _ _ _ _).mono ?_
          rintro e w3 ⟨rfl, hb⟩
          have A3 := below_call A2 hb
          have B3 := B2.below hb
          clear hb B2 A2 c0 c1 cf cl
          obtain ⟨c0, c1, cf, cl⟩ := B3.two
          go_wp2
          go_roundw
          case rel => exact ⟨q + 1, _, _, by omega, by go_num, below_set_on (below_set_on A3 (p := ⟨W.heap.size, 0, none⟩) (Nat.le_refl _) _) (p := ⟨W.heap.size, 1, none⟩) (Nat.le_refl _) _, B3.two_set _ _, HS.out⟩
          case measure => simp [intOf]; omega
        · obtain rfl : q = m := by omega
          go_wp2_with (fail)
          refine (HC.out _).mono ?_
          rintro e w2 ⟨rfl, hb⟩
          have A2 := below_call A1 hb
          clear hb B1 A1 c0 c1 cf cl
          go_wp2_with (fail)
          refine (law12_awake _).mono ?_
          rintro e w3 ⟨rfl, hb⟩
          have A3 := below_call A2 hb
          clear hb A2
          go_wp2
          all_goals go_ret
          all_goals exact ⟨rfl, A3⟩

theorem lifted (os : Os) (started : os.Started) (H : Type) (enc : TypeId × Value → H) :
    ReturnsInHanded {} Try.checked os 4 .any (Rows.motorShutsSpec.pre6 enc Try.prog Try.f4 Rows.motorShutsRow.domain false) (Rows.motorShutsSpec.post enc Try.prog Try.f4 false true false false) := by
  refine law_lift started (by kernel_rfl) Try.func4 rfl rfl ?_ (by kernel_rfl)
    (ChangeSpec.witness6 (enc := enc) (C := Try.checked) false ⟨#[], #[.agg #[.int .i64 0, .int .i64 0], .int .u8 0], []⟩ 8 (by kernel_rfl) (by kernel_rfl) (by kernel_rfl) (by kernel_rfl)) ?_
  · intro ds hl
    match ds, hl with
    | [_, _], _ => exact ⟨rfl, rfl, rfl⟩
  · intro W base args ds p hval hA hlt hwt
    rw [Try.params4] at hA hval hwt
    obtain ⟨v0, vs0, d0, ds0, p0, q0, hargs, rfl, rfl, h0, r0⟩ := trodAll_cons hA
    obtain ⟨v1, vs1, d1, ds1, p1, q1, rfl, rfl, rfl, h1, r1⟩ := trodAll_cons r0
    obtain ⟨rfl, rfl, rfl⟩ := trodAll_nil r1
    obtain rfl : args = #[v0, v1] := by cases args; simp_all
    obtain ⟨cs0, rfl, l0, k0⟩ := open_leaves 5 [.int .i64, .int .i64] (by kernel_rfl) (by kernel_rfl) (hval 0 23 v0 rfl rfl) h0
    match cs0, l0, k0 with
    | [y0_0, y0_1], _, k0 =>
    obtain ⟨x0_0, e0_0, w0_0⟩ : leafIs (.int .i64) y0_0 := k0 0 _ rfl
    subst e0_0
    obtain ⟨x0_1, e0_1, w0_1⟩ : leafIs (.int .i64) y0_1 := k0 1 _ rfl
    subst e0_1
    obtain ⟨a1, rfl, rfl, rfl, w1⟩ := open_int Try.underlying5 (hval 1 5 v1 rfl rfl) h1
    exact walk x0_0 w0_0 x0_1 w0_1 a1 w1 W

theorem over : Rows.motorShutsRow.holds Try.pinned (OpenSpec.ofChange Rows.motorShutsSpec) :=
  OpenClaim.holds_of_wide 4 Try.f4 rfl rfl rfl rfl rfl rfl rfl ⟨rfl, rfl, rfl, rfl, rfl⟩ rfl rfl rfl rfl rfl (by kernel_rfl) Try.func4 (by kernel_rfl)
    (of_decide_eq_true (by kernel_rfl)) (by unfold Func.isWrapper; first | (rw [if_pos (by decide +kernel)]; kernel_rfl) | (rw [if_neg (by decide +kernel)]; exact ⟨rfl, rfl⟩))
    (fun os started H enc _ => lifted os started H enc)

theorem proved : Rows.MotorShutsSaid := over
#print axioms proved
end Go.Proofs.Ytdnekdkdnfkpdaa.motorShuts
