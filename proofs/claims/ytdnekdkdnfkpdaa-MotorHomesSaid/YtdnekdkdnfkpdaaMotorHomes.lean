/- MotorHomes holds of every motor and every list of wishes: while it goes home nobody's wish counts; the position never leaves its limits. No condition. -/
import Derived.Test.YtdnekdkdnfkpdaaLaw12
import Derived.Test.YtdnekdkdnfkpdaaLeaf
import Derived.RegionTactic
import Derived.Deep.DeepCutAuto
namespace Go.Proofs.Ytdnekdkdnfkpdaa.motorHomes
open Go.ChangeShapes Go.WideShapes Go.ChangeAt Go.RowKit
set_option linter.unusedVariables false
attribute [local go_sem] cell_set_ite Near.cell Near.frozen

set_option maxRecDepth 100000 in
set_option maxHeartbeats 4000000 in
theorem walk (W : World) (p : Int) (wp : (Lit.int .i64 p).wf = true) (k : Int) (wk : (Lit.int .i64 k).wf = true) (A : Option Addr) (n c : Nat) (ss : List Int) (hi : Ints W A n ss) (hc : n ≤ c) (hr : n * 8 ≤ 140737488351232) (wx : ∀ x ∈ ss, (Lit.int .i64 x).wf = true) :
    Calls Try.prog 6 #[.agg #[.int .i64 p, .int .i64 k], .slice A n c] W fun e W' => e = .returned (.bool true) ∧ Below W.heap.size W W' := by
  have A0 : Below W.heap.size W W := Below.refl _ _
  clear wp wk wx
  by_cases hn : 400 < n
  · clear hi
    go_enter Try.func6, Try.ntmps6
    go_wp2_with (fail)
    refine (law12_awake _).mono ?_
    rintro e w1 ⟨rfl, hb⟩
    go_wp2
    all_goals go_ret
    all_goals exact ⟨rfl, below_call (below_alloc_on A0 _) hb⟩
  · have HI := Lib.hid hi
    clear hi
    go_enter Try.func6, Try.ntmps6
    go_wp2
    go_cut [5, 6] (fun va vb wx => ∃ ga gb : Nat, va = .pointer (some ⟨ga, 0, none⟩) ∧ vb = .pointer (some ⟨gb, 0, none⟩) ∧ ga ≠ gb ∧ W.heap.size ≤ ga ∧ W.heap.size ≤ gb ∧ Below W.heap.size W wx ∧ Box wx ga #[.int .i64 p, .int .i64 k] ∧ Box wx gb #[.int .i64 p, .int .i64 k])
    case first =>
      go_region
      all_goals
        go_wp2
        go_meet
        case rel =>
          have b1 := ((box_at (W.alloc (.cells #[.int .i64 p, .int .i64 k] 23)) #[.int .i64 p, .int .i64 k] 23 (g := W.heap.size + 1) (by simp)).alloc (.cells #[.int .i64 p, .int .i64 k] 23)).drew
          have b2 := (box_at ((W.alloc (.cells #[.int .i64 p, .int .i64 k] 23)).alloc (.cells #[.int .i64 p, .int .i64 k] 23)) #[.int .i64 p, .int .i64 k] 23 (g := W.heap.size + 1 + 1) (by simp)).drew
          have hB := below_drewN (below_alloc_on (below_alloc_on (below_alloc_on A0 (.cells #[.int .i64 p, .int .i64 k] 23)) (.cells #[.int .i64 p, .int .i64 k] 23)) (.cells #[.int .i64 p, .int .i64 k] 23)) 1
          first
            | exact ⟨_, _, rfl, rfl, by omega, by omega, by omega, hB, b1, b2⟩
            | exact ⟨_, _, rfl, rfl, by omega, by omega, by omega, hB, b2, b1⟩
    case rest =>
      obtain ⟨ga, gb, rfl, rfl, hne, la, lb, A1, Ba, Bb⟩ := hcut
      clear A0
      have hne2 : ¬ gb = ga := fun h => hne h.symm
      go_wp2
      go_loopw [17] (fun i wr => ∃ (j : Nat) (P H : Int), j ≤ n ∧ i = .int .i64 j ∧ Below W.heap.size W wr ∧ Box wr ga #[.int .i64 P, .int .i64 H] ∧ Box wr gb #[.int .i64 P, .int .i64 H]) (fun i _ => n - (intOf i).toNat)
      case atStart => exact ⟨0, p, k, Nat.zero_le _, rfl, A1, Ba, Bb⟩
      case round =>
        clear A1 Ba Bb
        obtain ⟨j, P, H, hj, rfl, A1, Ba, Bb⟩ := hrel
        by_cases hlt : j < n
        · obtain ⟨b, off, rfl, hbs, hcell⟩ := HI.out.2 (by omega)
          replace hcell := hcell j hlt
          have hck := (A1.cell (p := ⟨b, off + j, none⟩) hbs).trans hcell
          have hbr : b < wr.heap.size := Nat.lt_of_lt_of_le hbs A1.size
          clear hcell
          generalize ss.getD j 0 = x at *
          obtain ⟨a0, a1, af, al⟩ := Ba.two
          obtain ⟨b0, b1, bf, bl⟩ := Bb.two
          have na : ¬ ga = wr.heap.size := by omega
          have nb : ¬ gb = wr.heap.size := by omega
          have nn : ¬ b = ga := by omega
          obtain ⟨P0, P1, H0, H1⟩ := st_bd P H x
          have t1 : decide (stP P H x < 0) = false := decide_eq_false (by omega)
          have t2 : decide (300 < stP P H x) = false := decide_eq_false (by omega)
          have t3 : decide (stH H < 0) = false := decide_eq_false (by omega)
          have t4 : decide (320 < stH H) = false := decide_eq_false (by omega)
          by_cases hH : 0 < H
          · have t0 : decide (H ≤ 0) = false := decide_eq_false (by omega)
            have HS := Lib.hid (fun w => mo_step P H x w)
            have HS2 := Lib.hid (fun w => mo_step P H 0 w)
            rw [st_wish hH 0 x] at HS2
            generalize stP P H x = P2 at *
            generalize stH H = H2 at *
            go_wp2
            refine wp_region_calm_tail 6 (by kernel_rfl) (by kernel_rfl) ?_
            simp only [List.take_succ_cons, List.take_zero, List.drop_succ_cons, List.drop_zero]
            repeat (go_big_quiet_step (((go_at_call 9; exact calm_of _ (HS.out _)))))
            refine wpQuiet_nil ?_
            intro _ hw'
            obtain ⟨u, rfl⟩ := hw'
            have A2 := u.up (below_alloc_on A1 _)
            have Ba2 := (Ba.alloc (.cells #[.int .i64 P, .int .i64 H] 23)).near u
            have Bb2 := (Bb.alloc (.cells #[.int .i64 P, .int .i64 H] 23)).near u
            have Bn2 := (box_new wr #[.int .i64 P, .int .i64 H] 23).near u
            go_wp2_with (fail)
            refine (HS2.out _).mono ?_
            rintro e w3 ⟨rfl, hb⟩
            have A3 := below_call (below_set_on (below_set_on A2 (p := ⟨ga, 0, none⟩) la _) (p := ⟨ga, 1, none⟩) la _) hb
            have Ba3 := (Ba2.two_set _ _).below hb
            have Bb3 := ((Bb2.far (p := ⟨ga, 0, none⟩) hne _).far (p := ⟨ga, 1, none⟩) hne _).below hb
            have Bn3 := ((Bn2.far (p := ⟨ga, 0, none⟩) na _).far (p := ⟨ga, 1, none⟩) na _).below hb
            clear hb Ba2 Bb2 Bn2 A2 A1 Ba Bb a0 a1 af al b0 b1 bf bl hck
            obtain ⟨a0, a1, af, al⟩ := Ba3.two
            obtain ⟨b0, b1, bf, bl⟩ := Bb3.two
            obtain ⟨n0, n1, nf, nl⟩ := Bn3.two
            go_wp2
            go_roundw
            case rel => exact ⟨j + 1, _, _, by omega, by go_num, below_set_on (below_set_on A3 (p := ⟨gb, 0, none⟩) lb _) (p := ⟨gb, 1, none⟩) lb _, (Ba3.far (p := ⟨gb, 0, none⟩) hne2 _).far (p := ⟨gb, 1, none⟩) hne2 _, Bb3.two_set _ _⟩
            case measure => simp [intOf]; omega
          · have t0 : decide (H ≤ 0) = true := decide_eq_true (by omega)
            have t5 : decide (0 < H) = false := decide_eq_false hH
            have t6 : (stH H != 0) = false := by
              have := ch_neg (n := H) (by omega)
              unfold stH
              rw [if_neg (by omega)]
              rfl
            have HS := Lib.hid (fun w => mo_step P H x w)
            generalize stP P H x = P2 at *
            generalize stH H = H2 at *
            go_wp2
            refine wp_region_calm_tail 6 (by kernel_rfl) (by kernel_rfl) ?_
            simp only [List.take_succ_cons, List.take_zero, List.drop_succ_cons, List.drop_zero]
            repeat (go_big_quiet_step (((go_at_call 9; exact calm_of _ (HS.out _)))))
            refine wpQuiet_nil ?_
            intro _ hw'
            obtain ⟨u, rfl⟩ := hw'
            have A2 := u.up (below_alloc_on A1 _)
            have Ba2 := (Ba.alloc (.cells #[.int .i64 P, .int .i64 H] 23)).near u
            have Bb2 := (Bb.alloc (.cells #[.int .i64 P, .int .i64 H] 23)).near u
            have Bn2 := (box_new wr #[.int .i64 P, .int .i64 H] 23).near u
            clear a0 a1 af al b0 b1 bf bl hck
            obtain ⟨a0, a1, af, al⟩ := Ba2.two
            obtain ⟨b0, b1, bf, bl⟩ := Bb2.two
            obtain ⟨n0, n1, nf, nl⟩ := Bn2.two
            go_wp2
            go_roundw
            case rel => exact ⟨j + 1, _, _, by omega, by go_num, below_set_on (below_set_on (below_set_on (below_set_on A2 (p := ⟨ga, 0, none⟩) la _) (p := ⟨ga, 1, none⟩) la _) (p := ⟨gb, 0, none⟩) lb _) (p := ⟨gb, 1, none⟩) lb _, ((Ba2.two_set _ _).far (p := ⟨gb, 0, none⟩) hne2 _).far (p := ⟨gb, 1, none⟩) hne2 _, ((Bb2.far (p := ⟨ga, 0, none⟩) hne _).far (p := ⟨ga, 1, none⟩) hne _).two_set _ _⟩
            case measure => simp [intOf]; omega
        · obtain rfl : j = n := by omega
          go_wp2_with (fail)
          refine (law12_awake _).mono ?_
          rintro e w2 ⟨rfl, hb⟩
          have A2 := below_call A1 hb
          go_wp2
          all_goals go_ret
          all_goals exact ⟨rfl, A2⟩

theorem lifted (os : Os) (started : os.Started) (H : Type) (enc : TypeId × Value → H) :
    ReturnsInHanded {} Try.checked os 6 .any (Rows.motorHomesSpec.pre6 enc Try.prog Try.f6 Rows.motorHomesRow.domain false) (Rows.motorHomesSpec.post enc Try.prog Try.f6 false true false false) := by
  refine law_lift started (by kernel_rfl) Try.func6 rfl rfl ?_ (by kernel_rfl)
    (ChangeSpec.witness6 (enc := enc) (C := Try.checked) false ⟨#[], #[.agg #[.int .i64 0, .int .i64 0], .slice none 0 0], []⟩ 8 (by kernel_rfl) (by kernel_rfl) (by kernel_rfl) (by kernel_rfl)) ?_
  · intro ds hl
    match ds, hl with
    | [_, _], _ => exact ⟨rfl, rfl, rfl⟩
  · intro W base args ds p hval hA hlt hwt
    rw [Try.params6] at hA hval hwt
    obtain ⟨v0, vs0, d0, ds0, p0, q0, hargs, rfl, rfl, h0, r0⟩ := trodAll_cons hA
    obtain ⟨v1, vs1, d1, ds1, p1, q1, rfl, rfl, rfl, h1, r1⟩ := trodAll_cons r0
    obtain ⟨rfl, rfl, rfl⟩ := trodAll_nil r1
    obtain rfl : args = #[v0, v1] := by cases args; simp_all
    obtain ⟨cs0, rfl, l0, k0⟩ := open_leaves 5 [.int .i64, .int .i64] (by kernel_rfl) (by kernel_rfl) (hval 0 23 v0 rfl rfl) h0
    match cs0, l0, k0 with
    | [y0_0, y0_1], _, k0 =>
    obtain ⟨x0_0, e0_0, w0_0⟩ : leafIs (.int .i64) y0_0 := k0 0 _ rfl
    subst e0_0
    obtain ⟨x0_1, e0_1, w0_1⟩ : leafIs (.int .i64) y0_1 := k0 1 _ rfl
    subst e0_1
    have wt1 : ∀ n ∈ d1.weights Try.prog 34, n ≤ reachBytes := fun n hn => by
      have := List.all_eq_true.1 hwt n (DataW.weights_mem_each (j := 1) (t := 34) (d := d1) rfl rfl n hn)
      simpa using this
    have lt1 : ∀ x ∈ p1, x.block < W.heap.size := fun x hx => hlt x (by simp [hx])
    obtain ⟨A1, n1, c1, xs1, rfl, hi1, hc1, hr1, w1⟩ := open_ints_arg Try.underlying34 Try.underlying3 (by kernel_rfl) (by kernel_rfl) (hval 1 34 v1 rfl rfl) h1 lt1 wt1
    exact walk W x0_0 w0_0 x0_1 w0_1 A1 n1 c1 xs1 hi1 hc1 hr1 w1

theorem over : Rows.motorHomesRow.holds Try.pinned (OpenSpec.ofChange Rows.motorHomesSpec) :=
  OpenClaim.holds_of_wide 6 Try.f6 rfl rfl rfl rfl rfl rfl rfl ⟨rfl, rfl, rfl, rfl, rfl⟩ rfl rfl rfl rfl rfl (by kernel_rfl) Try.func6 (by kernel_rfl)
    (of_decide_eq_true (by kernel_rfl)) (by unfold Func.isWrapper; first | (rw [if_pos (by decide +kernel)]; kernel_rfl) | (rw [if_neg (by decide +kernel)]; exact ⟨rfl, rfl⟩))
    (fun os started H enc _ => lifted os started H enc)

theorem proved : Rows.MotorHomesSaid := over
#print axioms proved
end Go.Proofs.Ytdnekdkdnfkpdaa.motorHomes
