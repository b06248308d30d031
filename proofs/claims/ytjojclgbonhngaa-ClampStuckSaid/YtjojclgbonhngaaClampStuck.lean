/- ClampStuck holds of every place, every slip, and whatever was apart before: a stall is told within sixty ticks. No condition. -/
import Derived.Test.YtjojclgbonhngaaLaw14
import Derived.Test.YtjojclgbonhngaaLift
namespace Go.Proofs.Ytjojclgbonhngaa.clampStuck
open Go.ChangeShapes Go.WideShapes Go.ChangeAt Go.RowKit
set_option linter.unusedVariables false
attribute [local go_sem] cell_set_ite

def rnV (c k : Int) : Int := if k ≤ c then 0 else k - c
theorem sub_small {a b : Int} (a0 : -1000 ≤ a) (a1 : a ≤ 1000) (b0 : -1000 ≤ b) (b1 : b ≤ 1000) : subV a b = a - b := by
  unfold subV
  rw [clV_in (n := a) (by omega), clV_in (n := b) (by omega), clV_in (by omega)]
theorem with_small {n : Int} (h0 : 0 ≤ n) (h1 : n ≤ 1000) : withV n 0 1099511627776 = n := by unfold withV; split <;> (try split) <;> (try split) <;> omega
theorem ap_down {p s k R : Int} (p0 : 0 ≤ p) (p1 : p ≤ 300) (s0 : -6 ≤ s) (s1 : s ≤ 6) (k0 : 0 ≤ k) (k1 : k < p) (hR : 1 ≤ k → R = rnV (6 - s) (k - 1)) : apV R (p - k) 0 (p + s) = rnV (6 - s) k := by
  have h : neB (p - k) (p + s) = decide (k ≤ 6 - s) := by
    unfold neB
    rw [sub_small (by omega) (by omega) (by omega) (by omega), decide_eq_decide]
    omega
  unfold apV
  rw [if_neg (by omega), h]
  by_cases e : k ≤ 6 - s
  · rw [if_pos (decide_eq_true e)]
    unfold rnV
    rw [if_pos e]
  · rw [if_neg (by rw [decide_eq_false e]; simp), hR (by omega)]
    unfold rnV
    rw [if_neg e, with_small (by split <;> omega) (by split <;> omega)]
    split <;> omega
theorem st_down {p k : Int} (p1 : p ≤ 300) (k0 : 0 ≤ k) (k1 : k < p) : stP (p - k) 0 0 = p - (k + 1) ∧ stH 0 = 0 := by
  obtain ⟨a, b⟩ := st_home (p := p - k) (w := 0) (by omega) (by omega) (by omega) (by omega) (h := 0) (by omega)
  refine ⟨a.trans ?_, b⟩
  unfold neV; rw [if_neg (by omega), if_pos (by omega)]; omega

set_option maxHeartbeats 2000000 in
theorem walk (v : Int) (wv : (Lit.int .u16 v).wf = true) (z : Int) (wz : (Lit.int .i8 z).wf = true) (a : Int) (wa : (Lit.int .u8 a).wf = true) (W : World) :
    Calls Try.prog 6 #[.int .u16 v, .int .i8 z, .int .u8 a] W fun e W' => e = .returned (.bool true) ∧ Below W.heap.size W W' := by
  have v0 : 0 ≤ v ∧ v ≤ 65535 := by simp only [Lit.wf, IntKind.min, IntKind.max, IntKind.signed, IntKind.bits, Bool.and_eq_true] at wv; simpa using wv
  have z0 : -128 ≤ z ∧ z ≤ 127 := by simp only [Lit.wf, IntKind.min, IntKind.max, IntKind.signed, IntKind.bits, Bool.and_eq_true] at wz; simpa using wz
  have a0 : 0 ≤ a ∧ a ≤ 255 := by simp only [Lit.wf, IntKind.min, IntKind.max, IntKind.signed, IntKind.bits, Bool.and_eq_true] at wa; simpa using wa
  obtain ⟨v0, v1⟩ := v0
  obtain ⟨z0, z1⟩ := z0
  obtain ⟨a0, a1⟩ := a0
  have m1 := Int.tmod_lt_of_pos z (b := 7) (by omega)
  have m2 := Int.lt_tmod_of_pos z (b := 7) (by omega)
  obtain ⟨s, hs⟩ : ∃ s, z.tmod 7 = s := ⟨_, rfl⟩
  rw [hs] at m1 m2
  have hz : IntKind.i8.wrap (z.tmod 7) = z.tmod 7 := by
    rw [hs]
    have h : IntKind.i8.wrap s = s := by unfold IntKind.wrap; simp [IntKind.signed, IntKind.bits]; omega
    exact h
  obtain ⟨p, hp⟩ : ∃ p, 60 + v % 241 = p := ⟨_, rfl⟩
  obtain ⟨q, hq⟩ : ∃ q, a % 40 = q := ⟨_, rfl⟩
  have p0 : 60 ≤ p := by omega
  have p1 : p ≤ 300 := by omega
  obtain ⟨c, hc⟩ : ∃ c : Nat, 6 - s = (c : Int) := ⟨(6 - s).toNat, by omega⟩
  have c1 : c ≤ 12 := by omega
  have HC := Lib.hid hc
  have A0 : Below W.heap.size W W := Below.refl _ _
  clear wv wz wa hc
  go_enter Try.func6, Try.ntmps6
  go_wp2
  clear hp hq v0 v1 a0 a1
  go_loopw [9, 10] (fun t i wr => ∃ (k : Nat) (T R O : Int), i = .int .i64 ((k : Int) + 1) ∧ t = .int .i64 T ∧ k ≤ 60 ∧ Below W.heap.size W wr ∧ Box wr W.heap.size #[.int .i64 (p - k), .int .i64 0, .int .i64 R, .int .i64 O] ∧ (0 < T ∨ (T = 0 ∧ k ≤ c + 40 ∧ (1 ≤ k → R = rnV (6 - s) ((k : Int) - 1))))) (fun _ i _ => 61 - (intOf i).toNat)
  case atStart => exact ⟨0, 0, q, 0, rfl, rfl, by omega, below_alloc_on A0 _, by rw [show p - ((0 : Nat) : Int) = p by omega]; exact box_new W _ _, .inr ⟨rfl, by omega, fun h => absurd h (by omega)⟩⟩
  case round =>
    obtain ⟨k, T, R, O, rfl, rfl, hk, A1, B1, hT⟩ := hrel
    rcases hT with hT | ⟨rfl, hkc, hR⟩
    · have t1 : (T == 0) = false := by simp; omega
      have t2 := decide_eq_true hT
      go_wp2_with (go_at_call 13; refine (law14_awake _).mono ?_; rintro e w' ⟨rfl, hb⟩)
      all_goals go_ret
      all_goals exact ⟨rfl, below_call A1 hb⟩
    · have hap := ap_down (p := p) (s := s) (k := k) (R := R) (by omega) p1 (by omega) (by omega) (by omega) (by omega) (fun h => hR (by omega))
      obtain ⟨g1, g2⟩ := st_down (p := p) (k := k) p1 (by omega) (by omega)
      have e8 : waV 300 true = 0 := by decide +kernel
      have HS := Lib.hid (fun w => cl_step (p - k) 0 R O 300 true (p + s) w)
      rw [e8, g1, g2, hap] at HS
      have hR2 := Lib.hid (show rnV (6 - s) (k : Int) = rnV (6 - s) (((k + 1 : Nat) : Int) - 1) from congrArg _ (by omega))
      obtain ⟨b0, b1, b2, b3, bf, bl⟩ := B1.four
      by_cases hlast : k = c + 40
      · rw [show slB (rnV (6 - s) (k : Int)) = true by unfold slB rnV; rw [HC.out]; simp; omega] at HS
        have HLA := Lib.hid hlast
        clear hap g1 g2 e8 hR hlast
        generalize rnV (6 - s) (k : Int) = R2 at *
        go_wp2_with (fail)
        refine (HS.out _).mono ?_
        rintro e w2 ⟨rfl, hb⟩
        have A2 := below_call A1 hb
        have B2 := B1.below hb
        clear hb A1 B1 b0 b1 b2 b3 bf bl
        obtain ⟨b0, b1, b2, b3, bf, bl⟩ := B2.four
        go_wp2
        go_roundw
        case rel => exact ⟨k + 1, (k : Int) + 1, R2, 0, by go_num, rfl, by omega, below_set_on (below_set_on (below_set_on (below_set_on A2 (p := ⟨W.heap.size, 0, none⟩) (Nat.le_refl _) _) (p := ⟨W.heap.size, 1, none⟩) (Nat.le_refl _) _) (p := ⟨W.heap.size, 2, none⟩) (Nat.le_refl _) _) (p := ⟨W.heap.size, 3, none⟩) (Nat.le_refl _) _, B2.four_set _ _ _ _, .inl (by omega)⟩
        case measure => simp [intOf]; omega
      · rw [show slB (rnV (6 - s) (k : Int)) = false by unfold slB rnV; rw [HC.out]; simp; omega] at HS
        have HLA := Lib.hid (show k + 1 ≤ c + 40 by omega)
        clear hap g1 g2 e8 hR hlast
        generalize rnV (6 - s) (k : Int) = R2 at *
        go_wp2_with (fail)
        refine (HS.out _).mono ?_
        rintro e w2 ⟨rfl, hb⟩
        have A2 := below_call A1 hb
        have B2 := B1.below hb
        clear hb A1 B1 b0 b1 b2 b3 bf bl
        obtain ⟨b0, b1, b2, b3, bf, bl⟩ := B2.four
        go_wp2
        go_roundw
        case rel => exact ⟨k + 1, 0, R2, 0, by go_num, rfl, by omega, below_set_on (below_set_on (below_set_on (below_set_on A2 (p := ⟨W.heap.size, 0, none⟩) (Nat.le_refl _) _) (p := ⟨W.heap.size, 1, none⟩) (Nat.le_refl _) _) (p := ⟨W.heap.size, 2, none⟩) (Nat.le_refl _) _) (p := ⟨W.heap.size, 3, none⟩) (Nat.le_refl _) _, B2.four_set _ _ _ _, .inr ⟨rfl, HLA.out, fun _ => hR2.out⟩⟩
        case measure => simp [intOf]; omega

theorem lifted (os : Os) (started : os.Started) (H : Type) (enc : TypeId × Value → H) :
    ReturnsInHanded {} Try.checked os 6 .any (Rows.clampStuckSpec.pre6 enc Try.prog Try.f6 Rows.clampStuckRow.domain false) (Rows.clampStuckSpec.post enc Try.prog Try.f6 false true false false) := by
  refine law_lift started (by kernel_rfl) Try.func6 rfl rfl ?_ (by kernel_rfl)
    (ChangeSpec.witness6 (enc := enc) (C := Try.checked) false ⟨#[], #[.int .u16 0, .int .i8 0, .int .u8 0], []⟩ 8 (by kernel_rfl) (by kernel_rfl) (by kernel_rfl) (by kernel_rfl)) ?_
  · intro ds hl
    match ds, hl with
    | [_, _, _], _ => exact ⟨rfl, rfl, rfl⟩
  · intro W base args ds p hval hA hlt hwt
    rw [Try.params6] at hA hval hwt
    obtain ⟨v0, vs0, d0, ds0, p0, q0, hargs, rfl, rfl, h0, r0⟩ := trodAll_cons hA
    obtain ⟨v1, vs1, d1, ds1, p1, q1, rfl, rfl, rfl, h1, r1⟩ := trodAll_cons r0
    obtain ⟨v2, vs2, d2, ds2, p2, q2, rfl, rfl, rfl, h2, r2⟩ := trodAll_cons r1
    obtain ⟨rfl, rfl, rfl⟩ := trodAll_nil r2
    obtain rfl : args = #[v0, v1, v2] := by cases args; simp_all
    obtain ⟨a0, rfl, rfl, rfl, w0⟩ := open_int Try.underlying39 (hval 0 39 v0 rfl rfl) h0
    obtain ⟨a1, rfl, rfl, rfl, w1⟩ := open_int Try.underlying38 (hval 1 38 v1 rfl rfl) h1
    obtain ⟨a2, rfl, rfl, rfl, w2⟩ := open_int Try.underlying5 (hval 2 5 v2 rfl rfl) h2
    exact walk a0 w0 a1 w1 a2 w2 W

theorem over : Rows.clampStuckRow.holds Try.pinned (OpenSpec.ofChange Rows.clampStuckSpec) :=
  OpenClaim.holds_of_wide 6 Try.f6 rfl rfl rfl rfl rfl rfl rfl ⟨rfl, rfl, rfl, rfl, rfl⟩ rfl rfl rfl rfl rfl (by kernel_rfl) Try.func6 (by kernel_rfl)
    (of_decide_eq_true (by kernel_rfl)) (by unfold Func.isWrapper; first | (rw [if_pos (by decide +kernel)]; kernel_rfl) | (rw [if_neg (by decide +kernel)]; exact ⟨rfl, rfl⟩))
    (fun os started H enc _ => lifted os started H enc)

theorem proved : Rows.ClampStuckSaid := over
#print axioms proved
end Go.Proofs.Ytjojclgbonhngaa.clampStuck
