/- DriftFive holds of every goal and every list of rates: it is too fast just if the last five drops were, and likewise too slow; never both. No condition. -/
import Derived.Test.YtbglkokdnkcknaaDrift
import Derived.Test.YtbglkokdnkcknaaLift
import Derived.Test.YtbglkokdnkcknaaNums
namespace Go.Proofs.Ytbglkokdnkcknaa.driftFive
open Go.ChangeShapes Go.WideShapes Go.ChangeAt Go.RowKit
set_option linter.unusedVariables false
attribute [local go_sem] cell_set_ite

theorem mul_small {a b : Int} (h : (a * b).natAbs ≤ 9007199254740992) (ha : a.natAbs ≤ 9007199254740992) (hb : b.natAbs ≤ 9007199254740992) : mulV a b = a * b := by
  unfold mulV
  rw [clV_in ha, clV_in hb, clV_in h]
theorem step_is {q g s : Int} (q0 : 0 ≤ q) (q1 : q ≤ 1000) (g0 : 1 ≤ g) (g1 : g ≤ 1000000) (s0 : 0 ≤ s) (s1 : s ≤ 4000000) :
    drO q g s true = (if 3 * g < 2 * s then q + 1 else 0) ∧ drU q g s true = (if 2 * s < g then q + 1 else 0) := by
  unfold drO drU
  rw [if_pos rfl, if_pos rfl, mul_small (a := g) (b := 3) (by omega) (by omega) (by omega), mul_small (a := s) (b := 2) (by omega) (by omega) (by omega), clV_in (by omega)]
  unfold roV
  rw [mo_in q0 (by omega)]
  constructor
  · by_cases h : 3 * g < 2 * s
    · rw [if_pos h, if_pos (decide_eq_true (by omega))]
    · rw [if_neg h, if_neg (by rw [decide_eq_false (by omega)]; simp)]
  · by_cases h : 2 * s < g
    · rw [if_pos h, if_pos (decide_eq_true (by omega))]
    · rw [if_neg h, if_neg (by rw [decide_eq_false (by omega)]; simp)]

set_option maxRecDepth 100000 in
set_option maxHeartbeats 2000000 in
theorem some_ (W : World) (a : Int) (a0 : 0 ≤ a) (a1 : a ≤ 4294967295) (A : Option Addr) (n c : Nat) (ss : List Int) (hi : Nums .u32 W A n ss) (hc : n ≤ c) (hn : n ≤ 60) (wx : ∀ x ∈ ss, (Lit.int .u32 x).wf = true) :
    Calls Try.prog 9 #[.int .u32 a, .slice A n c] W fun e W' => e = .returned (.bool true) ∧ Below W.heap.size W W' := by
  have HI := Lib.hid hi
  have HX := Lib.hid (show ∀ j : Nat, j < n → 0 ≤ ss.getD j 0 ∧ ss.getD j 0 ≤ 4294967295 from fun j hj => by
    have hj' : j < ss.length := by have := hi.1; omega
    have h := wx (ss.getD j 0) (by simp [List.getD, List.getElem?_eq_getElem hj'])
    simp only [Lit.wf, IntKind.min, IntKind.max, IntKind.signed, IntKind.bits, Bool.and_eq_true] at h
    simpa using h)
  obtain ⟨g, hg⟩ : ∃ g, 1 + a % 1000000 = g := ⟨_, rfl⟩
  have g0 : 1 ≤ g := by omega
  have g1 : g ≤ 1000000 := by omega
  have A0 : Below W.heap.size W W := Below.refl _ _
  have t0 : decide (60 < (n : Int)) = false := decide_eq_false (by omega)
  clear hi wx
  go_enter Try.func9, Try.ntmps9
  go_wp2
  have A1 := below_alloc_on A0 (.cells #[.int .i64 0, .int .i64 0] 36)
  have B1 := box_new W #[.int .i64 0, .int .i64 0] 36
  generalize W.alloc (.cells #[.int .i64 0, .int .i64 0] 36) = w1 at *
  clear hg
  go_loopw [7, 8, 21] (fun f s i wr => ∃ (j p q : Nat), j ≤ n ∧ i = .int .i64 j ∧ f = .int .i64 p ∧ s = .int .i64 q ∧ p ≤ j ∧ q ≤ j ∧ Below W.heap.size W wr ∧ Box wr W.heap.size #[.int .i64 p, .int .i64 q]) (fun _ _ i _ => n - (intOf i).toNat)
  case atStart => exact ⟨0, 0, 0, Nat.zero_le _, rfl, rfl, rfl, Nat.le_refl _, Nat.le_refl _, A1, B1⟩
  case round =>
    clear A1 B1
    obtain ⟨j, p, q, hj, rfl, rfl, rfl, hp, hq, A1, B1⟩ := hrel
    by_cases hlt : j < n
    · obtain ⟨b, off, rfl, hbs, hcell⟩ := HI.out.at_ hlt
      have hck := (A1.cell (p := ⟨b, off + j, none⟩) hbs).trans hcell
      obtain ⟨x0, x1⟩ := HX.out j hlt
      clear hcell
      generalize ss.getD j 0 = x at *
      obtain ⟨s, hs⟩ : ∃ s, x % 4000000 = s := ⟨_, rfl⟩
      have s0 : 0 ≤ s := by omega
      have s1 : s ≤ 4000000 := by omega
      obtain ⟨c0, c1, cf, cl⟩ := B1.two
      obtain ⟨e1, _⟩ := step_is (q := (p : Int)) (by omega) (by omega) g0 g1 s0 s1
      obtain ⟨_, e2⟩ := step_is (q := (q : Int)) (by omega) (by omega) g0 g1 s0 s1
      have HS := Lib.hid (fun w => dr_step p q g s true w)
      rw [e1, e2] at HS
      clear e1 e2
      rcases (by omega : 3 * g < 2 * s ∨ (2 * s ≤ 3 * g ∧ g ≤ 2 * s) ∨ 2 * s < g) with h | ⟨h, h2⟩ | h
      · rw [if_pos h, if_neg (by omega)] at HS
        have HF := Lib.hid (fun w => dr_fast ((p : Int) + 1) 0 w)
        have HL := Lib.hid (fun w => dr_slow ((p : Int) + 1) 0 w)
        rw [show fiB 0 = false by decide] at HL
        have t1 : decide (2 * s ≤ 3 * g) = false := decide_eq_false (by omega)
        have t2 : decide (g ≤ 2 * s) = true := decide_eq_true (by omega)
        by_cases h5 : 5 ≤ (p : Int) + 1
        all_goals
          first
            | rw [show fiB ((p : Int) + 1) = true from decide_eq_true h5] at HF
            | rw [show fiB ((p : Int) + 1) = false from decide_eq_false h5] at HF
          first
            | have t3 := decide_eq_true h5
            | have t3 := decide_eq_false h5
          go_wp2_with (fail)
          refine (HS.out _).mono ?_
          rintro e w2 ⟨rfl, hb⟩
          have A1' := below_call A1 hb
          have B1' := B1.below hb
          clear hb B1 A1 c0 c1 cf cl hck
          obtain ⟨c0, c1, cf, cl⟩ := B1'.two
          go_wp2_with (fail)
          have A2 := below_set_on (below_set_on A1' (p := ⟨W.heap.size, 0, none⟩) (Nat.le_refl _) (.int .i64 ((p : Int) + 1))) (p := ⟨W.heap.size, 1, none⟩) (Nat.le_refl _) (.int .i64 0)
          have B2 := B1'.two_set (.int .i64 ((p : Int) + 1)) (.int .i64 0)
          generalize (w2.setCell ⟨W.heap.size, 0, none⟩ (.int .i64 ((p : Int) + 1))).setCell ⟨W.heap.size, 1, none⟩ (.int .i64 0) = w3 at *
          clear B1' A1' c0 c1 cf cl
          obtain ⟨c0, c1, cf, cl⟩ := B2.two
          go_wp2_with (fail)
          refine (HF.out _).mono ?_
          rintro e w4 ⟨rfl, hb⟩
          have A3 := below_call A2 hb
          have B3 := B2.below hb
          clear hb B2 A2 c0 c1 cf cl
          obtain ⟨c0, c1, cf, cl⟩ := B3.two
          go_wp2_with (fail)
          refine (HL.out _).mono ?_
          rintro e w5 ⟨rfl, hb⟩
          have A4 := below_call A3 hb
          have B4 := B3.below hb
          clear hb B3 A3 c0 c1 cf cl
          obtain ⟨c0, c1, cf, cl⟩ := B4.two
          go_wp2
          go_roundw
          case rel => exact ⟨j + 1, p + 1, 0, by omega, by go_num, by go_num, rfl, by omega, by omega, A4, B4⟩
          case measure => simp [intOf]; omega
      · rw [if_neg (by omega), if_neg (by omega)] at HS
        have HF := Lib.hid (fun w => dr_fast 0 0 w)
        have HL := Lib.hid (fun w => dr_slow 0 0 w)
        rw [show fiB 0 = false by decide] at HF HL
        have t1 : decide (2 * s ≤ 3 * g) = true := decide_eq_true (by omega)
        have t2 : decide (g ≤ 2 * s) = true := decide_eq_true (by omega)
        go_wp2_with (fail)
        refine (HS.out _).mono ?_
        rintro e w2 ⟨rfl, hb⟩
        have A1' := below_call A1 hb
        have B1' := B1.below hb
        clear hb B1 A1 c0 c1 cf cl hck
        obtain ⟨c0, c1, cf, cl⟩ := B1'.two
        go_wp2_with (fail)
        have A2 := below_set_on (below_set_on A1' (p := ⟨W.heap.size, 0, none⟩) (Nat.le_refl _) (.int .i64 0)) (p := ⟨W.heap.size, 1, none⟩) (Nat.le_refl _) (.int .i64 0)
        have B2 := B1'.two_set (.int .i64 0) (.int .i64 0)
        generalize (w2.setCell ⟨W.heap.size, 0, none⟩ (.int .i64 0)).setCell ⟨W.heap.size, 1, none⟩ (.int .i64 0) = w3 at *
        clear B1' A1' c0 c1 cf cl
        obtain ⟨c0, c1, cf, cl⟩ := B2.two
        go_wp2_with (fail)
        refine (HF.out _).mono ?_
        rintro e w4 ⟨rfl, hb⟩
        have A3 := below_call A2 hb
        have B3 := B2.below hb
        clear hb B2 A2 c0 c1 cf cl
        obtain ⟨c0, c1, cf, cl⟩ := B3.two
        go_wp2_with (fail)
        refine (HL.out _).mono ?_
        rintro e w5 ⟨rfl, hb⟩
        have A4 := below_call A3 hb
        have B4 := B3.below hb
        clear hb B3 A3 c0 c1 cf cl
        obtain ⟨c0, c1, cf, cl⟩ := B4.two
        go_wp2
        go_roundw
        case rel => exact ⟨j + 1, 0, 0, by omega, by go_num, rfl, rfl, by omega, by omega, A4, B4⟩
        case measure => simp [intOf]; omega
      · rw [if_neg (by omega), if_pos h] at HS
        have HF := Lib.hid (fun w => dr_fast 0 ((q : Int) + 1) w)
        have HL := Lib.hid (fun w => dr_slow 0 ((q : Int) + 1) w)
        rw [show fiB 0 = false by decide] at HF
        have t1 : decide (2 * s ≤ 3 * g) = true := decide_eq_true (by omega)
        have t2 : decide (g ≤ 2 * s) = false := decide_eq_false (by omega)
        by_cases h5 : 5 ≤ (q : Int) + 1
        all_goals
          first
            | rw [show fiB ((q : Int) + 1) = true from decide_eq_true h5] at HL
            | rw [show fiB ((q : Int) + 1) = false from decide_eq_false h5] at HL
          first
            | have t3 := decide_eq_true h5
            | have t3 := decide_eq_false h5
          go_wp2_with (fail)
          refine (HS.out _).mono ?_
          rintro e w2 ⟨rfl, hb⟩
          have A1' := below_call A1 hb
          have B1' := B1.below hb
          clear hb B1 A1 c0 c1 cf cl hck
          obtain ⟨c0, c1, cf, cl⟩ := B1'.two
          go_wp2_with (fail)
          have A2 := below_set_on (below_set_on A1' (p := ⟨W.heap.size, 0, none⟩) (Nat.le_refl _) (.int .i64 0)) (p := ⟨W.heap.size, 1, none⟩) (Nat.le_refl _) (.int .i64 ((q : Int) + 1))
          have B2 := B1'.two_set (.int .i64 0) (.int .i64 ((q : Int) + 1))
          generalize (w2.setCell ⟨W.heap.size, 0, none⟩ (.int .i64 0)).setCell ⟨W.heap.size, 1, none⟩ (.int .i64 ((q : Int) + 1)) = w3 at *
          clear B1' A1' c0 c1 cf cl
          obtain ⟨c0, c1, cf, cl⟩ := B2.two
          go_wp2_with (fail)
          refine (HF.out _).mono ?_
          rintro e w4 ⟨rfl, hb⟩
          have A3 := below_call A2 hb
          have B3 := B2.below hb
          clear hb B2 A2 c0 c1 cf cl
          obtain ⟨c0, c1, cf, cl⟩ := B3.two
          go_wp2_with (fail)
          refine (HL.out _).mono ?_
          rintro e w5 ⟨rfl, hb⟩
          have A4 := below_call A3 hb
          have B4 := B3.below hb
          clear hb B3 A3 c0 c1 cf cl
          obtain ⟨c0, c1, cf, cl⟩ := B4.two
          go_wp2
          go_roundw
          case rel => exact ⟨j + 1, 0, q + 1, by omega, by go_num, rfl, by go_num, by omega, by omega, A4, B4⟩
          case measure => simp [intOf]; omega
    · obtain rfl : j = n := by omega
      go_wp2_with (fail)
      refine (law31_awake _).mono ?_
      rintro e w2 ⟨rfl, hb⟩
      go_wp2
      all_goals go_ret
      all_goals exact ⟨rfl, below_call A1 hb⟩
theorem walk (W : World) (a : Int) (wa : (Lit.int .u32 a).wf = true) (A : Option Addr) (n c : Nat) (ss : List Int) (hi : Nums .u32 W A n ss) (hc : n ≤ c) (hr : n * 4 ≤ 140737488351232) (wx : ∀ x ∈ ss, (Lit.int .u32 x).wf = true) :
    Calls Try.prog 9 #[.int .u32 a, .slice A n c] W fun e W' => e = .returned (.bool true) ∧ Below W.heap.size W W' := by
  simp only [Lit.wf, IntKind.min, IntKind.max, IntKind.signed, IntKind.bits, Bool.and_eq_true] at wa
  simp at wa
  by_cases h : 60 < n
  · have t1 : decide (60 < (n : Int)) = true := decide_eq_true (by omega)
    clear hi wx
    go_enter Try.func9, Try.ntmps9
    go_wp2_with (fail)
    refine (law31_awake _).mono ?_
    rintro e w3 ⟨rfl, hb⟩
    go_wp2
    all_goals go_ret
    all_goals exact ⟨rfl, hb⟩
  · exact some_ W a (by omega) (by omega) A n c ss hi hc (by omega) wx

theorem lifted (os : Os) (started : os.Started) (H : Type) (enc : TypeId × Value → H) :
    ReturnsInHanded {} Try.checked os 9 .any (Rows.driftFiveSpec.pre6 enc Try.prog Try.f9 Rows.driftFiveRow.domain false) (Rows.driftFiveSpec.post enc Try.prog Try.f9 false true false false) := by
  refine law_lift started (by kernel_rfl) Try.func9 rfl rfl ?_ (by kernel_rfl)
    (ChangeSpec.witness6 (enc := enc) (C := Try.checked) false ⟨#[], #[.int .u32 0, .slice none 0 0], []⟩ 8 (by kernel_rfl) (by kernel_rfl) (by kernel_rfl) (by kernel_rfl)) ?_
  · intro ds hl
    match ds, hl with
    | [_, _], _ => exact ⟨rfl, rfl, rfl⟩
  · intro W base args ds p hval hA hlt hwt
    rw [Try.params9] at hA hval hwt
    obtain ⟨v0, vs0, d0, ds0, p0, q0, hargs, rfl, rfl, h0, r0⟩ := trodAll_cons hA
    obtain ⟨v1, vs1, d1, ds1, p1, q1, rfl, rfl, rfl, h1, r1⟩ := trodAll_cons r0
    obtain ⟨rfl, rfl, rfl⟩ := trodAll_nil r1
    obtain rfl : args = #[v0, v1] := by cases args; simp_all
    obtain ⟨a0, rfl, rfl, rfl, w0⟩ := open_int Try.underlying40 (hval 0 40 v0 rfl rfl) h0
    have wt1 : ∀ n ∈ d1.weights Try.prog 41, n ≤ reachBytes := fun n hn => by
      have := List.all_eq_true.1 hwt n (DataW.weights_mem_each (j := 1) (t := 41) (d := d1) rfl rfl n hn)
      simpa using this
    have lt1 : ∀ x ∈ p1, x.block < W.heap.size := fun x hx => hlt x (by simp [hx])
    obtain ⟨A1, n1, c1, xs1, rfl, hi1, hc1, hr1, w1⟩ := open_nums_arg Try.underlying41 Try.underlying40 (by kernel_rfl) (by kernel_rfl) (hval 1 41 v1 rfl rfl) h1 lt1 wt1
    exact walk W a0 w0 A1 n1 c1 xs1 hi1 hc1 hr1 w1

theorem over : Rows.driftFiveRow.holds Try.pinned (OpenSpec.ofChange Rows.driftFiveSpec) :=
  OpenClaim.holds_of_wide 9 Try.f9 rfl rfl rfl rfl rfl rfl rfl ⟨rfl, rfl, rfl, rfl, rfl⟩ rfl rfl rfl rfl rfl (by kernel_rfl) Try.func9 (by kernel_rfl)
    (of_decide_eq_true (by kernel_rfl)) (by unfold Func.isWrapper; first | (rw [if_pos (by decide +kernel)]; kernel_rfl) | (rw [if_neg (by decide +kernel)]; exact ⟨rfl, rfl⟩))
    (fun os started H enc _ => lifted os started H enc)

theorem proved : Rows.DriftFiveSaid := over
#print axioms proved
end Go.Proofs.Ytbglkokdnkcknaa.driftFive
