/- FollowFinds holds of every motor and every list: who follows is never told to be stalled; who is apart for forty ticks is, in the fortieth one. No condition. -/
import Derived.Test.YtnckecjcngcjbaaFollow
import Derived.Test.YtnckecjcngcjbaaLeaf
import Derived.Test.YtnckecjcngcjbaaNums
namespace Go.Proofs.Ytnckecjcngcjbaa.followFinds
open Go.ChangeShapes Go.WideShapes Go.ChangeAt Go.RowKit
set_option linter.unusedVariables false
attribute [local go_sem] cell_set_ite

theorem sub_small {a b : Int} (a0 : -1000 ≤ a) (a1 : a ≤ 1000) (b0 : -1000 ≤ b) (b1 : b ≤ 1000) : subV a b = a - b := by
  unfold subV
  rw [clV_in (n := a) (by omega), clV_in (n := b) (by omega), clV_in (by omega)]
theorem near_eq {p d : Int} (p0 : 0 ≤ p) (p1 : p ≤ 300) (d0 : -128 ≤ d) (d1 : d ≤ 127) : neB p (p + d) = decide (-6 ≤ d ∧ d ≤ 6) := by
  unfold neB
  rw [sub_small (by omega) (by omega) (by omega) (by omega), decide_eq_decide]
  omega
theorem with_small {n : Int} (h0 : 0 ≤ n) (h1 : n ≤ 1000) : withV n 0 1099511627776 = n := by unfold withV; split <;> (try split) <;> (try split) <;> omega

theorem early (W : World) (p k : Int) (A : Option Addr) (n c : Nat) (hn : n ≤ 9223372036854775807) (hc : 120 < n ∨ (n ≤ 120 ∧ p < 0) ∨ (n ≤ 120 ∧ 0 ≤ p ∧ 300 < p) ∨ (n ≤ 120 ∧ 0 ≤ p ∧ p ≤ 300 ∧ 0 < k)) :
    Calls Try.prog 4 #[.agg #[.int .i64 p, .int .i64 k], .slice A n c] W fun e W' => e = .returned (.bool true) ∧ Below W.heap.size W W' := by
  rcases hc with h1 | ⟨h1, h2⟩ | ⟨h1, h2, h3⟩ | ⟨h1, h2, h3, h4⟩
  all_goals
    go_enter Try.func4, Try.ntmps4
    go_wp2_with (go_at_call 10; refine (law13_awake _).mono ?_; rintro e w' ⟨rfl, hb⟩)
    all_goals go_ret
    all_goals exact ⟨rfl, below_call (below_alloc_on (Below.refl _ _) _) hb⟩

set_option maxHeartbeats 2000000 in
theorem walk (W : World) (p : Int) (wp : (Lit.int .i64 p).wf = true) (k : Int) (wk : (Lit.int .i64 k).wf = true) (A : Option Addr) (n c : Nat) (ss : List Int) (hi : Nums .i8 W A n ss) (hc : n ≤ c) (hr : n * 1 ≤ 140737488351232) (wx : ∀ x ∈ ss, (Lit.int .i8 x).wf = true) :
    Calls Try.prog 4 #[.agg #[.int .i64 p, .int .i64 k], .slice A n c] W fun e W' => e = .returned (.bool true) ∧ Below W.heap.size W W' := by
  by_cases hn : 120 < n
  · exact early W p k A n c (by omega) (.inl hn)
  by_cases h1 : p < 0
  · exact early W p k A n c (by omega) (.inr (.inl ⟨by omega, h1⟩))
  by_cases h2 : 300 < p
  · exact early W p k A n c (by omega) (.inr (.inr (.inl ⟨by omega, by omega, h2⟩)))
  by_cases h3 : 0 < k
  · exact early W p k A n c (by omega) (.inr (.inr (.inr ⟨by omega, by omega, by omega, h3⟩)))
  have HI := Lib.hid hi
  have HX := Lib.hid (show ∀ j : Nat, j < n → -128 ≤ ss.getD j 0 ∧ ss.getD j 0 ≤ 127 from fun j hj => by
    have hj' : j < ss.length := by have := hi.1; omega
    have h := wx (ss.getD j 0) (by simp [List.getD, List.getElem?_eq_getElem hj'])
    simp only [Lit.wf, IntKind.min, IntKind.max, IntKind.signed, IntKind.bits, Bool.and_eq_true] at h
    simpa using h)
  have p0 : 0 ≤ p := by omega
  have p1 : p ≤ 300 := by omega
  have A0 : Below W.heap.size W W := Below.refl _ _
  clear hi wx wp wk
  go_enter Try.func4, Try.ntmps4
  go_wp2
  go_loopw [5, 6, 30] (fun r s i wr => ∃ (j q : Nat), j ≤ n ∧ i = .int .i64 j ∧ r = .int .i64 q ∧ s = .int .i64 q ∧ q ≤ j ∧ Below W.heap.size W wr ∧ Box wr W.heap.size #[.int .i64 p, .int .i64 k]) (fun _ _ i _ => n - (intOf i).toNat)
  case atStart => exact ⟨0, 0, Nat.zero_le _, rfl, rfl, rfl, Nat.le_refl _, below_alloc_on A0 _, box_new W _ _⟩
  case round =>
    obtain ⟨j, q, hj, rfl, rfl, rfl, hq, A1, B1⟩ := hrel
    by_cases hlt : j < n
    · obtain ⟨b, off, rfl, hbs, hcell⟩ := HI.out.at_ hlt
      have hck := (A1.cell (p := ⟨b, off + j, none⟩) hbs).trans hcell
      obtain ⟨s0, s1⟩ := HX.out j hlt
      clear hcell
      generalize ss.getD j 0 = d at *
      obtain ⟨c0, c1, cf, cl⟩ := B1.two
      have hv : apV q p k (p + d) = if -6 ≤ d ∧ d ≤ 6 then 0 else (q : Int) + 1 := by
        unfold apV
        rw [if_neg (by omega), near_eq p0 p1 s0 s1, with_small (by omega) (by omega)]
        by_cases e : -6 ≤ d ∧ d ≤ 6
        · rw [if_pos e, if_pos (decide_eq_true e)]
        · rw [if_neg e, if_neg (by rw [decide_eq_false e]; simp)]
      have HA := Lib.hid (fun w => fo_apart q p k (p + d) w)
      rw [hv] at HA
      clear hv
      rcases (by omega : (6 < d) ∨ (¬ 6 < d ∧ d < -6) ∨ (¬ 6 < d ∧ ¬ d < -6)) with g1 | ⟨g1, g2⟩ | ⟨g1, g2⟩
      · rw [if_neg (by omega)] at HA
        have HS := Lib.hid (fun w => fo_stalled ((q : Int) + 1) w)
        by_cases g40 : 40 ≤ (q : Int) + 1
        all_goals
          first
            | rw [show slB ((q : Int) + 1) = true from decide_eq_true g40] at HS
            | rw [show slB ((q : Int) + 1) = false from decide_eq_false g40] at HS
          first
            | have t1 := decide_eq_true g40
            | have t1 := decide_eq_false g40
          go_wp2_with (fail)
          refine (HA.out _).mono ?_
          rintro e w2 ⟨rfl, hb⟩
          have A2 := below_call A1 hb
          have B2 := B1.below hb
          clear hb B1 A1 c0 c1 cf cl hck
          go_wp2_with (go_at_call 8; refine (HS.out _).mono ?_; rintro e w' ⟨rfl, rfl⟩)
          go_roundw
          case rel => exact ⟨j + 1, q + 1, by omega, by go_num, by go_num, by go_num, by omega, A2, B2⟩
          case measure => simp [intOf]; omega
      · rw [if_neg (by omega)] at HA
        have HS := Lib.hid (fun w => fo_stalled ((q : Int) + 1) w)
        by_cases g40 : 40 ≤ (q : Int) + 1
        all_goals
          first
            | rw [show slB ((q : Int) + 1) = true from decide_eq_true g40] at HS
            | rw [show slB ((q : Int) + 1) = false from decide_eq_false g40] at HS
          first
            | have t1 := decide_eq_true g40
            | have t1 := decide_eq_false g40
          go_wp2_with (fail)
          refine (HA.out _).mono ?_
          rintro e w2 ⟨rfl, hb⟩
          have A2 := below_call A1 hb
          have B2 := B1.below hb
          clear hb B1 A1 c0 c1 cf cl hck
          go_wp2_with (go_at_call 8; refine (HS.out _).mono ?_; rintro e w' ⟨rfl, rfl⟩)
          go_roundw
          case rel => exact ⟨j + 1, q + 1, by omega, by go_num, by go_num, by go_num, by omega, A2, B2⟩
          case measure => simp [intOf]; omega
      · rw [if_pos (by omega)] at HA
        have HS := Lib.hid (fun w => fo_stalled 0 w)
        have t1 : slB 0 = false := by decide
        go_wp2_with (fail)
        refine (HA.out _).mono ?_
        rintro e w2 ⟨rfl, hb⟩
        have A2 := below_call A1 hb
        have B2 := B1.below hb
        clear hb B1 A1 c0 c1 cf cl hck
        go_wp2_with (go_at_call 8; refine (HS.out _).mono ?_; rintro e w' ⟨rfl, rfl⟩)
        go_roundw
        case rel => exact ⟨j + 1, 0, by omega, by go_num, rfl, rfl, by omega, A2, B2⟩
        case measure => simp [intOf]; omega
    · obtain rfl : j = n := by omega
      go_wp2_with (fail)
      refine (law13_awake _).mono ?_
      rintro e w2 ⟨rfl, hb⟩
      have A2 := below_call A1 hb
      go_wp2
      all_goals go_ret
      all_goals exact ⟨rfl, A2⟩

theorem lifted (os : Os) (started : os.Started) (H : Type) (enc : TypeId × Value → H) :
    ReturnsInHanded {} Try.checked os 4 .any (Rows.followFindsSpec.pre6 enc Try.prog Try.f4 Rows.followFindsRow.domain false) (Rows.followFindsSpec.post enc Try.prog Try.f4 false true false false) := by
  refine law_lift started (by kernel_rfl) Try.func4 rfl rfl ?_ (by kernel_rfl)
    (ChangeSpec.witness6 (enc := enc) (C := Try.checked) false ⟨#[], #[.agg #[.int .i64 0, .int .i64 0], .slice none 0 0], []⟩ 8 (by kernel_rfl) (by kernel_rfl) (by kernel_rfl) (by kernel_rfl)) ?_
  · intro ds hl
    match ds, hl with
    | [_, _], _ => exact ⟨rfl, rfl, rfl⟩
  · intro W base args ds p hval hA hlt hwt
    rw [Try.params4] at hA hval hwt
    obtain ⟨v0, vs0, d0, ds0, p0, q0, hargs, rfl, rfl, h0, r0⟩ := trodAll_cons hA
    obtain ⟨v1, vs1, d1, ds1, p1, q1, rfl, rfl, rfl, h1, r1⟩ := trodAll_cons r0
    obtain ⟨rfl, rfl, rfl⟩ := trodAll_nil r1
    obtain rfl : args = #[v0, v1] := by cases args; simp_all
    obtain ⟨cs0, rfl, l0, k0⟩ := open_leaves 5 [.int .i64, .int .i64] (by kernel_rfl) (by kernel_rfl) (hval 0 23 v0 rfl rfl) h0
    match cs0, l0, k0 with
    | [y0_0, y0_1], _, k0 =>
    obtain ⟨x0_0, e0_0, w0_0⟩ : leafIs (.int .i64) y0_0 := k0 0 _ rfl
    subst e0_0
    obtain ⟨x0_1, e0_1, w0_1⟩ : leafIs (.int .i64) y0_1 := k0 1 _ rfl
    subst e0_1
    have wt1 : ∀ n ∈ d1.weights Try.prog 28, n ≤ reachBytes := fun n hn => by
      have := List.all_eq_true.1 hwt n (DataW.weights_mem_each (j := 1) (t := 28) (d := d1) rfl rfl n hn)
      simpa using this
    have lt1 : ∀ x ∈ p1, x.block < W.heap.size := fun x hx => hlt x (by simp [hx])
    obtain ⟨A1, n1, c1, xs1, rfl, hi1, hc1, hr1, w1⟩ := open_nums_arg Try.underlying28 Try.underlying29 (by kernel_rfl) (by kernel_rfl) (hval 1 28 v1 rfl rfl) h1 lt1 wt1
    exact walk W x0_0 w0_0 x0_1 w0_1 A1 n1 c1 xs1 hi1 hc1 hr1 w1

theorem over : Rows.followFindsRow.holds Try.pinned (OpenSpec.ofChange Rows.followFindsSpec) :=
  OpenClaim.holds_of_wide 4 Try.f4 rfl rfl rfl rfl rfl rfl rfl ⟨rfl, rfl, rfl, rfl, rfl⟩ rfl rfl rfl rfl rfl (by kernel_rfl) Try.func4 (by kernel_rfl)
    (of_decide_eq_true (by kernel_rfl)) (by unfold Func.isWrapper; first | (rw [if_pos (by decide +kernel)]; kernel_rfl) | (rw [if_neg (by decide +kernel)]; exact ⟨rfl, rfl⟩))
    (fun os started H enc _ => lifted os started H enc)

theorem proved : Rows.FollowFindsSaid := over
#print axioms proved
end Go.Proofs.Ytnckecjcngcjbaa.followFinds
