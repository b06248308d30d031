/- ClampShuts holds of every clamp, whatever the encoder tells: what is to be shut is, within four hundred ticks, and stays so. No condition. -/
import Derived.Test.YtjojclgbonhngaaLaw14
import Derived.Test.YtjojclgbonhngaaLeaf
namespace Go.Proofs.Ytjojclgbonhngaa.clampShuts
open Go.ChangeShapes Go.WideShapes Go.ChangeAt Go.RowKit
set_option linter.unusedVariables false
attribute [local go_sem] cell_set_ite

theorem lf_next {P K : Int} {j : Nat} (h : lfV P K + j ≤ 320 ∨ lfV P K = 0) : lfV (stP P K 0) (stH K) + ((j + 1 : Nat) : Int) ≤ 320 ∨ lfV (stP P K 0) (stH K) = 0 := by
  have := lf_step (p := P) (h := K) (w := 0) (by omega)
  have := lf_bd P K
  split at * <;> omega

set_option maxRecDepth 100000 in
set_option maxHeartbeats 2000000 in
theorem walk0 (W : World) (p k r o v : Int) (A : Option Addr) (c : Nat) (ss : List Int) (hi : Ints W A 0 ss) (A0 : Below W.heap.size W W) :
    Calls Try.prog 4 #[.agg #[.int .i64 p, .int .i64 k, .int .i64 r, .int .i64 o], .int .i64 v, .slice A 0 c] W fun e W' => e = .returned (.bool true) ∧ Below W.heap.size W W' := by
  have hl0 : lfV p k + ((0 : Nat) : Int) ≤ 320 ∨ lfV p k = 0 := by have := lf_bd p k; omega
  clear hi
  go_enter Try.func4, Try.ntmps4
  go_wp2
  go_loopw [13] (fun i wr => ∃ (j : Nat) (P K R O : Int), j ≤ 420 ∧ i = .int .i64 j ∧ Below W.heap.size W wr ∧ Box wr W.heap.size #[.int .i64 P, .int .i64 K, .int .i64 R, .int .i64 O] ∧ (lfV P K + j ≤ 320 ∨ lfV P K = 0)) (fun i _ => 420 - (intOf i).toNat)
  case atStart => exact ⟨0, p, k, r, o, Nat.zero_le _, rfl, below_alloc_on A0 _, box_new W _ _, hl0⟩
  case round =>
    clear hl0
    obtain ⟨j, P, K, R, O, hj, rfl, A1, B1, hl⟩ := hrel
    obtain ⟨b0, b1, b2, b3, bf, bl⟩ := B1.four
    by_cases hlt : j < 420
    · have hl2 := Lib.hid (lf_next hl)
      have HS := Lib.hid (fun w => cl_step P K R O v true 0 w)
      have e8 : waV v true = 0 := by unfold waV; rw [if_pos rfl]
      rw [e8] at HS
      clear e8
      have hcd : 400 ≤ j → cdB (stP P K 0) (stH K) = true := fun h => by rw [cd_lf]; exact decide_eq_true (by have := hl2.out; have := lf_bd (stP P K 0) (stH K); omega)
      have HC : Hid (400 ≤ j → ∀ w, Calls Try.prog 11 #[.agg #[.int .i64 (stP P K 0), .int .i64 (stH K), .int .i64 (apV R P K 0), .int .i64 0]] w fun e w' => e = .returned (.bool true) ∧ Below w.heap.size w w') := Lib.hid (fun h w => by
        have := cl_shut (stP P K 0) (stH K) (apV R P K 0) 0 w
        rwa [hcd h] at this)
      clear hcd hl
      generalize stP P K 0 = P2 at *
      generalize stH K = K2 at *
      generalize apV R P K 0 = R2 at *
      generalize slB R2 = S2 at *
      go_wp2_with (fail)
      refine (HS.out _).mono ?_
      rintro e w2 ⟨rfl, hb⟩
      have A2 := below_call A1 hb
      have B2 := B1.below hb
      clear hb A1 B1 b0 b1 b2 b3 bf bl
      obtain ⟨b0, b1, b2, b3, bf, bl⟩ := B2.four
      have B3 := B2.four_set (.int .i64 P2) (.int .i64 K2) (.int .i64 R2) (.int .i64 0)
      have A3 := below_set_on (below_set_on (below_set_on (below_set_on A2 (p := ⟨W.heap.size, 0, none⟩) (Nat.le_refl _) (.int .i64 P2)) (p := ⟨W.heap.size, 1, none⟩) (Nat.le_refl _) (.int .i64 K2)) (p := ⟨W.heap.size, 2, none⟩) (Nat.le_refl _) (.int .i64 R2)) (p := ⟨W.heap.size, 3, none⟩) (Nat.le_refl _) (.int .i64 0)
      by_cases h4 : 400 ≤ j
      · go_wp2_with (fail)
        refine (HC.out h4 _).mono ?_
        rintro e w4 ⟨rfl, hb⟩
        have A4 := below_call A3 hb
        have B4 := B3.below hb
        go_wp2
        go_roundw
        case rel => exact ⟨j + 1, P2, K2, R2, 0, by omega, by go_num, A4, B4, hl2.out⟩
        case measure => simp [intOf]; omega
      · go_wp2
        go_roundw
        case rel => exact ⟨j + 1, P2, K2, R2, 0, by omega, by go_num, A3, B3, hl2.out⟩
        case measure => simp [intOf]; omega
    · obtain rfl : j = 420 := by omega
      have hcd : cdB P K = true := by rw [cd_lf]; exact decide_eq_true (by have := lf_bd P K; omega)
      have HC := Lib.hid (fun w => cl_shut P K R O w)
      rw [hcd] at HC
      clear hcd hl
      go_wp2_with (fail)
      refine (HC.out _).mono ?_
      rintro e w2 ⟨rfl, hb⟩
      have A2 := below_call A1 hb
      clear hb A1
      go_wp2_with (fail)
      refine (law14_awake _).mono ?_
      rintro e w3 ⟨rfl, hb⟩
      have A3 := below_call A2 hb
      go_wp2
      all_goals go_ret
      all_goals exact ⟨rfl, A3⟩

set_option maxRecDepth 100000 in
set_option maxHeartbeats 2000000 in
theorem walk1 (W : World) (p k r o v : Int) (A : Option Addr) (n c : Nat) (ss : List Int) (hi : Ints W A n ss) (h0 : 0 < n) (hn : ¬ 20 < n) (A0 : Below W.heap.size W W) :
    Calls Try.prog 4 #[.agg #[.int .i64 p, .int .i64 k, .int .i64 r, .int .i64 o], .int .i64 v, .slice A n c] W fun e W' => e = .returned (.bool true) ∧ Below W.heap.size W W' := by
  have HI := Lib.hid hi
  have hl0 : lfV p k + ((0 : Nat) : Int) ≤ 320 ∨ lfV p k = 0 := by have := lf_bd p k; omega
  clear hi
  go_enter Try.func4, Try.ntmps4
  go_wp2
  go_loopw [13] (fun i wr => ∃ (j : Nat) (P K R O : Int), j ≤ 420 ∧ i = .int .i64 j ∧ Below W.heap.size W wr ∧ Box wr W.heap.size #[.int .i64 P, .int .i64 K, .int .i64 R, .int .i64 O] ∧ (lfV P K + j ≤ 320 ∨ lfV P K = 0)) (fun i _ => 420 - (intOf i).toNat)
  case atStart => exact ⟨0, p, k, r, o, Nat.zero_le _, rfl, below_alloc_on A0 _, box_new W _ _, hl0⟩
  case round =>
    clear hl0
    obtain ⟨j, P, K, R, O, hj, rfl, A1, B1, hl⟩ := hrel
    obtain ⟨b0, b1, b2, b3, bf, bl⟩ := B1.four
    by_cases hlt : j < 420
    · have hl2 := Lib.hid (lf_next hl)
      have hx : ∃ x, ∃ b off, A = some ⟨b, off, none⟩ ∧ b < W.heap.size ∧ wr.cell? ⟨b, off + j % n, none⟩ = some (.int .i64 x) := by
        obtain ⟨b, off, e, hbs, hcell⟩ := HI.out.2 (by omega)
        exact ⟨ss.getD (j % n) 0, b, off, e, hbs, (A1.cell (p := ⟨b, off + j % n, none⟩) hbs).trans (hcell (j % n) (Nat.mod_lt _ (by omega)))⟩
      obtain ⟨x, b, off, hx⟩ := hx
      have HS := Lib.hid (fun w => cl_step P K R O v true x w)
      have e8 : waV v true = 0 := by unfold waV; rw [if_pos rfl]
      rw [e8] at HS
      clear e8
      have hcd : 400 ≤ j → cdB (stP P K 0) (stH K) = true := fun h => by rw [cd_lf]; exact decide_eq_true (by have := hl2.out; have := lf_bd (stP P K 0) (stH K); omega)
      have HC : Hid (400 ≤ j → ∀ w, Calls Try.prog 11 #[.agg #[.int .i64 (stP P K 0), .int .i64 (stH K), .int .i64 (apV R P K x), .int .i64 0]] w fun e w' => e = .returned (.bool true) ∧ Below w.heap.size w w') := Lib.hid (fun h w => by
        have := cl_shut (stP P K 0) (stH K) (apV R P K x) 0 w
        rwa [hcd h] at this)
      clear hcd hl
      generalize stP P K 0 = P2 at *
      generalize stH K = K2 at *
      generalize apV R P K x = R2 at *
      generalize slB R2 = S2 at *
      obtain ⟨rfl, hbs, hck⟩ := hx
      have hm : j % n < n := Nat.mod_lt _ h0
      have hmi : (j : Int) % (n : Int) = ((j % n : Nat) : Int) := by simp
      generalize j % n = q at *
      go_wp2_with (fail)
      refine (HS.out _).mono ?_
      rintro e w2 ⟨rfl, hb⟩
      have A2 := below_call A1 hb
      have B2 := B1.below hb
      clear hb A1 B1 b0 b1 b2 b3 bf bl hck
      obtain ⟨b0, b1, b2, b3, bf, bl⟩ := B2.four
      have B3 := B2.four_set (.int .i64 P2) (.int .i64 K2) (.int .i64 R2) (.int .i64 0)
      have A3 := below_set_on (below_set_on (below_set_on (below_set_on A2 (p := ⟨W.heap.size, 0, none⟩) (Nat.le_refl _) (.int .i64 P2)) (p := ⟨W.heap.size, 1, none⟩) (Nat.le_refl _) (.int .i64 K2)) (p := ⟨W.heap.size, 2, none⟩) (Nat.le_refl _) (.int .i64 R2)) (p := ⟨W.heap.size, 3, none⟩) (Nat.le_refl _) (.int .i64 0)
      by_cases h4 : 400 ≤ j
      · go_wp2_with (fail)
        refine (HC.out h4 _).mono ?_
        rintro e w4 ⟨rfl, hb⟩
        have A4 := below_call A3 hb
        have B4 := B3.below hb
        go_wp2
        go_roundw
        case rel => exact ⟨j + 1, P2, K2, R2, 0, by omega, by go_num, A4, B4, hl2.out⟩
        case measure => simp [intOf]; omega
      · go_wp2
        go_roundw
        case rel => exact ⟨j + 1, P2, K2, R2, 0, by omega, by go_num, A3, B3, hl2.out⟩
        case measure => simp [intOf]; omega
    · obtain rfl : j = 420 := by omega
      have hcd : cdB P K = true := by rw [cd_lf]; exact decide_eq_true (by have := lf_bd P K; omega)
      have HC := Lib.hid (fun w => cl_shut P K R O w)
      rw [hcd] at HC
      clear hcd hl
      go_wp2_with (fail)
      refine (HC.out _).mono ?_
      rintro e w2 ⟨rfl, hb⟩
      have A2 := below_call A1 hb
      clear hb A1
      go_wp2_with (fail)
      refine (law14_awake _).mono ?_
      rintro e w3 ⟨rfl, hb⟩
      have A3 := below_call A2 hb
      go_wp2
      all_goals go_ret
      all_goals exact ⟨rfl, A3⟩

theorem walk (W : World) (p : Int) (wp : (Lit.int .i64 p).wf = true) (k : Int) (wk : (Lit.int .i64 k).wf = true) (r : Int) (wr : (Lit.int .i64 r).wf = true) (o : Int) (wo : (Lit.int .i64 o).wf = true)
    (v : Int) (wv : (Lit.int .i64 v).wf = true) (A : Option Addr) (n c : Nat) (ss : List Int) (hi : Ints W A n ss) (hc : n ≤ c) (hr : n * 8 ≤ 140737488351232) (wx : ∀ x ∈ ss, (Lit.int .i64 x).wf = true) :
    Calls Try.prog 4 #[.agg #[.int .i64 p, .int .i64 k, .int .i64 r, .int .i64 o], .int .i64 v, .slice A n c] W fun e W' => e = .returned (.bool true) ∧ Below W.heap.size W W' := by
  clear wp wk wr wo wv wx
  have A0 : Below W.heap.size W W := Below.refl _ _
  by_cases hn : 20 < n
  · clear hi
    go_enter Try.func4, Try.ntmps4
    go_wp2_with (fail)
    refine (law14_awake _).mono ?_
    rintro e w1 ⟨rfl, hb⟩
    go_wp2
    all_goals go_ret
    all_goals exact ⟨rfl, below_call (below_alloc_on A0 _) hb⟩
  by_cases h0 : n = 0
  · subst h0
    exact walk0 W p k r o v A c ss hi A0
  · exact walk1 W p k r o v A n c ss hi (by omega) hn A0

theorem lifted (os : Os) (started : os.Started) (H : Type) (enc : TypeId × Value → H) :
    ReturnsInHanded {} Try.checked os 4 .any (Rows.clampShutsSpec.pre6 enc Try.prog Try.f4 Rows.clampShutsRow.domain false) (Rows.clampShutsSpec.post enc Try.prog Try.f4 false true false false) := by
  refine law_lift started (by kernel_rfl) Try.func4 rfl rfl ?_ (by kernel_rfl)
    (ChangeSpec.witness6 (enc := enc) (C := Try.checked) false ⟨#[], #[.agg #[.int .i64 0, .int .i64 0, .int .i64 0, .int .i64 0], .int .i64 0, .slice none 0 0], []⟩ 8 (by kernel_rfl) (by kernel_rfl) (by kernel_rfl) (by kernel_rfl)) ?_
  · intro ds hl
    match ds, hl with
    | [_, _, _], _ => exact ⟨rfl, rfl, rfl⟩
  · intro W base args ds p hval hA hlt hwt
    rw [Try.params4] at hA hval hwt
    obtain ⟨v0, vs0, d0, ds0, p0, q0, hargs, rfl, rfl, h0, r0⟩ := trodAll_cons hA
    obtain ⟨v1, vs1, d1, ds1, p1, q1, rfl, rfl, rfl, h1, r1⟩ := trodAll_cons r0
    obtain ⟨v2, vs2, d2, ds2, p2, q2, rfl, rfl, rfl, h2, r2⟩ := trodAll_cons r1
    obtain ⟨rfl, rfl, rfl⟩ := trodAll_nil r2
    obtain rfl : args = #[v0, v1, v2] := by cases args; simp_all
    obtain ⟨cs0, rfl, l0, k0⟩ := open_leaves 5 [.int .i64, .int .i64, .int .i64, .int .i64] (by kernel_rfl) (by kernel_rfl) (hval 0 25 v0 rfl rfl) h0
    match cs0, l0, k0 with
    | [y0_0, y0_1, y0_2, y0_3], _, k0 =>
    obtain ⟨x0_0, e0_0, w0_0⟩ : leafIs (.int .i64) y0_0 := k0 0 _ rfl
    subst e0_0
    obtain ⟨x0_1, e0_1, w0_1⟩ : leafIs (.int .i64) y0_1 := k0 1 _ rfl
    subst e0_1
    obtain ⟨x0_2, e0_2, w0_2⟩ : leafIs (.int .i64) y0_2 := k0 2 _ rfl
    subst e0_2
    obtain ⟨x0_3, e0_3, w0_3⟩ : leafIs (.int .i64) y0_3 := k0 3 _ rfl
    subst e0_3
    obtain ⟨a1, rfl, rfl, rfl, w1⟩ := open_int Try.underlying3 (hval 1 3 v1 rfl rfl) h1
    have wt2 : ∀ n ∈ d2.weights Try.prog 33, n ≤ reachBytes := fun n hn => by
      have := List.all_eq_true.1 hwt n (DataW.weights_mem_each (j := 2) (t := 33) (d := d2) rfl rfl n hn)
      simpa using this
    have lt2 : ∀ x ∈ p2, x.block < W.heap.size := fun x hx => hlt x (by simp [hx])
    obtain ⟨A2, n2, c2, xs2, rfl, hi2, hc2, hr2, w2⟩ := open_ints_arg Try.underlying33 Try.underlying3 (by kernel_rfl) (by kernel_rfl) (hval 2 33 v2 rfl rfl) h2 lt2 wt2
    exact walk W x0_0 w0_0 x0_1 w0_1 x0_2 w0_2 x0_3 w0_3 a1 w1 A2 n2 c2 xs2 hi2 hc2 hr2 w2

theorem over : Rows.clampShutsRow.holds Try.pinned (OpenSpec.ofChange Rows.clampShutsSpec) :=
  OpenClaim.holds_of_wide 4 Try.f4 rfl rfl rfl rfl rfl rfl rfl ⟨rfl, rfl, rfl, rfl, rfl⟩ rfl rfl rfl rfl rfl (by kernel_rfl) Try.func4 (by kernel_rfl)
    (of_decide_eq_true (by kernel_rfl)) (by unfold Func.isWrapper; first | (rw [if_pos (by decide +kernel)]; kernel_rfl) | (rw [if_neg (by decide +kernel)]; exact ⟨rfl, rfl⟩))
    (fun os started H enc _ => lifted os started H enc)

theorem proved : Rows.ClampShutsSaid := over
#print axioms proved
end Go.Proofs.Ytjojclgbonhngaa.clampShuts
