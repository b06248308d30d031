/- MotorReaches holds of every place and every list of places: once it is home, it gets wherever it is to go, one step a tick, and stays. No condition. -/
import Derived.Test.YtdnekdkdnfkpdaaLaw12
import Derived.Test.YtdnekdkdnfkpdaaNums
namespace Go.Proofs.Ytdnekdkdnfkpdaa.motorReaches
open Go.ChangeShapes Go.WideShapes Go.ChangeAt Go.RowKit
set_option linter.unusedVariables false
attribute [local go_sem] cell_set_ite Near.cell Near.frozen

theorem ne_step {P D : Int} {F q : Nat} (hq : q < F) (hf : max (P - D) (D - P) = ((F - q : Nat) : Int)) :
    ¬ 1 < neV P D - P ∧ ¬ 1 < P - neV P D ∧ max (neV P D - D) (D - neV P D) = ((F - (q + 1) : Nat) : Int) := by
  unfold neV; split <;> (try split) <;> omega

set_option maxRecDepth 100000 in
set_option maxHeartbeats 4000000 in
theorem walk (W : World) (v : Int) (wv : (Lit.int .u16 v).wf = true) (A : Option Addr) (n c : Nat) (ss : List Int) (hi : Nums .u16 W A n ss) (hc : n ≤ c) (hr : n * 2 ≤ 140737488351232) (wx : ∀ x ∈ ss, (Lit.int .u16 x).wf = true) :
    Calls Try.prog 5 #[.int .u16 v, .slice A n c] W fun e W' => e = .returned (.bool true) ∧ Below W.heap.size W W' := by
  have A0 : Below W.heap.size W W := Below.refl _ _
  by_cases hn : 5 < n
  · clear hi
    go_enter Try.func5, Try.ntmps5
    go_wp2_with (fail)
    refine (law12_awake _).mono ?_
    rintro e w1 ⟨rfl, hb⟩
    go_wp2
    all_goals go_ret
    all_goals exact ⟨rfl, hb⟩
  · have v0 : 0 ≤ v ∧ v ≤ 65535 := by simp only [Lit.wf, IntKind.min, IntKind.max, IntKind.signed, IntKind.bits, Bool.and_eq_true] at wv; simpa using wv
    obtain ⟨a0, a1⟩ := v0
    have HI := Lib.hid hi
    have HX := Lib.hid (show ∀ j : Nat, j < n → 0 ≤ ss.getD j 0 ∧ ss.getD j 0 ≤ 65535 from fun j hj => by
      have hj' : j < ss.length := by have := hi.1; omega
      have h := wx (ss.getD j 0) (by simp [List.getD, List.getElem?_eq_getElem hj'])
      simp only [Lit.wf, IntKind.min, IntKind.max, IntKind.signed, IntKind.bits, Bool.and_eq_true] at h
      simpa using h)
    obtain ⟨p0, hp⟩ : ∃ p0 : Int, v % 301 = p0 := ⟨_, rfl⟩
    have b0 : 0 ≤ p0 := by omega
    have b1 : p0 ≤ 300 := by omega
    clear hi wx wv
    go_enter Try.func5, Try.ntmps5
    go_wp2
    clear hp a0 a1
    go_loopw [21] (fun i wr => ∃ (j : Nat) (P : Int), j ≤ n ∧ i = .int .i64 j ∧ 0 ≤ P ∧ P ≤ 300 ∧ Below W.heap.size W wr ∧ Box wr W.heap.size #[.int .i64 P, .int .i64 0]) (fun i _ => n - (intOf i).toNat)
    case atStart => exact ⟨0, p0, Nat.zero_le _, rfl, b0, b1, below_alloc_on A0 _, box_new W _ _⟩
    case round =>
      clear b0 b1
      obtain ⟨j, P, hj, rfl, b0, b1, A1, B1⟩ := hrel
      by_cases hlt : j < n
      · obtain ⟨b, off, rfl, hbs, hcell⟩ := HI.out.at_ hlt
        have hck := (A1.cell (p := ⟨b, off + j, none⟩) hbs).trans hcell
        obtain ⟨s0, s1⟩ := HX.out j hlt
        clear hcell
        generalize ss.getD j 0 = s at *
        obtain ⟨D, hD⟩ : ∃ D : Int, s % 301 = D := ⟨_, rfl⟩
        have d0 : 0 ≤ D := by omega
        have d1 : D ≤ 300 := by omega
        obtain ⟨F, hF⟩ : ∃ F : Nat, max (P - D) (D - P) = F := ⟨(max (P - D) (D - P)).toNat, by omega⟩
        have f1 : F ≤ 300 := by omega
        have HF := Lib.hid hF
        obtain ⟨c0, c1, cf, cl⟩ := B1.two
        rcases (by omega : (D - P = (F : Int) ∧ P - D < F) ∨ (P - D = (F : Int) ∧ ¬ F < D - P)) with ⟨hF2, hF3⟩ | ⟨hF2, hF3⟩
        all_goals
         clear hF
         go_wp2
         clear hF2 hF3 hD
         go_loopw [40] (fun i wr => ∃ (q : Nat) (P : Int), q ≤ F ∧ i = .int .i64 q ∧ 0 ≤ P ∧ P ≤ 300 ∧ Below W.heap.size W wr ∧ Box wr W.heap.size #[.int .i64 P, .int .i64 0] ∧ max (P - D) (D - P) = ((F - q : Nat) : Int)) (fun i _ => F - (intOf i).toNat)
         case atStart => exact ⟨0, P, Nat.zero_le _, rfl, b0, b1, A1, B1, HF.out⟩
         case round =>
           clear A1 B1 c0 c1 cf cl HF hck b0 b1
           obtain ⟨q, P, hq, rfl, b0, b1, A1, B1, hf⟩ := hrel
           obtain ⟨c0, c1, cf, cl⟩ := B1.two
           by_cases hql : q < F
           · obtain ⟨k1, k2, k3⟩ := ne_step hql hf
             obtain ⟨e1, e2⟩ := st_home b0 b1 d0 d1 (h := 0) (by omega)
             have HS := Lib.hid (fun w => mo_step P 0 D w)
             rw [e1, e2] at HS
             generalize neV P D = P2 at *
             have t1 := decide_eq_false k1
             have t2 := decide_eq_false k2
             have n0 : 0 ≤ P2 := by omega
             have n1 : P2 ≤ 300 := by omega
             have K3 := Lib.hid k3
             have t3 : (P2 - D < D - P2 ∧ (D - P2 != (F : Int) - 1 - (q : Int)) = false) ∨ (¬ P2 - D < D - P2 ∧ (P2 - D != (F : Int) - 1 - (q : Int)) = false) := by simp; omega
             clear k1 k2 k3 e1 e2 hf
             go_wp2_with (fail)
             refine (HS.out _).mono ?_
             rintro e w2 ⟨rfl, hb⟩
             have A2 := below_call A1 hb
             have B2 := B1.below hb
             clear hb B1 A1 c0 c1 cf cl
             obtain ⟨c0, c1, cf, cl⟩ := B2.two
             rcases t3 with ⟨t3, t4⟩ | ⟨t3, t4⟩
             all_goals
              go_wp2
              go_roundw
              case rel => exact ⟨q + 1, P2, by omega, by go_num, n0, n1, below_alloc_on (below_set_on (below_set_on A2 (p := ⟨W.heap.size, 0, none⟩) (Nat.le_refl _) _) (p := ⟨W.heap.size, 1, none⟩) (Nat.le_refl _) _) _, (B2.two_set _ _).alloc _, K3.out⟩
              case measure => simp [intOf]; omega
           · obtain rfl : q = F := by omega
             obtain rfl : P = D := by omega
             obtain ⟨e1, e2⟩ := st_home b0 b1 d0 d1 (h := 0) (by omega)
             have HS := Lib.hid (fun w => mo_step P 0 P w)
             rw [e1, e2, show neV P P = P by unfold neV; rw [if_neg (by omega), if_neg (by omega)]] at HS
             clear e1 e2 hf
             go_wp2
             refine wp_region_calm (by kernel_rfl) (by kernel_rfl) ?_
             repeat (go_big_quiet_step (((go_at_call 9; exact calm_of _ (HS.out _)))))
             refine wpQuiet_nil ?_
             intro _ hw'
             obtain ⟨u, rfl⟩ := hw'
             go_wp2
             go_roundw
             case rel => exact ⟨j + 1, P, by omega, by go_num, b0, b1, u.up A1, B1.near u⟩
             case measure => simp [intOf]; omega
      · obtain rfl : j = n := by omega
        go_wp2_with (fail)
        refine (law12_awake _).mono ?_
        rintro e w2 ⟨rfl, hb⟩
        have A2 := below_call A1 hb
        go_wp2
        all_goals go_ret
        all_goals exact ⟨rfl, A2⟩

theorem lifted (os : Os) (started : os.Started) (H : Type) (enc : TypeId × Value → H) :
    ReturnsInHanded {} Try.checked os 5 .any (Rows.motorReachesSpec.pre6 enc Try.prog Try.f5 Rows.motorReachesRow.domain false) (Rows.motorReachesSpec.post enc Try.prog Try.f5 false true false false) := by
  refine law_lift started (by kernel_rfl) Try.func5 rfl rfl ?_ (by kernel_rfl)
    (ChangeSpec.witness6 (enc := enc) (C := Try.checked) false ⟨#[], #[.int .u16 0, .slice none 0 0], []⟩ 8 (by kernel_rfl) (by kernel_rfl) (by kernel_rfl) (by kernel_rfl)) ?_
  · intro ds hl
    match ds, hl with
    | [_, _], _ => exact ⟨rfl, rfl, rfl⟩
  · intro W base args ds p hval hA hlt hwt
    rw [Try.params5] at hA hval hwt
    obtain ⟨v0, vs0, d0, ds0, p0, q0, hargs, rfl, rfl, h0, r0⟩ := trodAll_cons hA
    obtain ⟨v1, vs1, d1, ds1, p1, q1, rfl, rfl, rfl, h1, r1⟩ := trodAll_cons r0
    obtain ⟨rfl, rfl, rfl⟩ := trodAll_nil r1
    obtain rfl : args = #[v0, v1] := by cases args; simp_all
    obtain ⟨a0, rfl, rfl, rfl, w0⟩ := open_int Try.underlying31 (hval 0 31 v0 rfl rfl) h0
    have wt1 : ∀ n ∈ d1.weights Try.prog 32, n ≤ reachBytes := fun n hn => by
      have := List.all_eq_true.1 hwt n (DataW.weights_mem_each (j := 1) (t := 32) (d := d1) rfl rfl n hn)
      simpa using this
    have lt1 : ∀ x ∈ p1, x.block < W.heap.size := fun x hx => hlt x (by simp [hx])
    obtain ⟨A1, n1, c1, xs1, rfl, hi1, hc1, hr1, w1⟩ := open_nums_arg Try.underlying32 Try.underlying31 (by kernel_rfl) (by kernel_rfl) (hval 1 32 v1 rfl rfl) h1 lt1 wt1
    exact walk W a0 w0 A1 n1 c1 xs1 hi1 hc1 hr1 w1

theorem over : Rows.motorReachesRow.holds Try.pinned (OpenSpec.ofChange Rows.motorReachesSpec) :=
  OpenClaim.holds_of_wide 5 Try.f5 rfl rfl rfl rfl rfl rfl rfl ⟨rfl, rfl, rfl, rfl, rfl⟩ rfl rfl rfl rfl rfl (by kernel_rfl) Try.func5 (by kernel_rfl)
    (of_decide_eq_true (by kernel_rfl)) (by unfold Func.isWrapper; first | (rw [if_pos (by decide +kernel)]; kernel_rfl) | (rw [if_neg (by decide +kernel)]; exact ⟨rfl, rfl⟩))
    (fun os started H enc _ => lifted os started H enc)

theorem proved : Rows.MotorReachesSaid := over
#print axioms proved
end Go.Proofs.Ytdnekdkdnfkpdaa.motorReaches
