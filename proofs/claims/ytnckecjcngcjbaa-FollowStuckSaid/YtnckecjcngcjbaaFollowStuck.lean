/- FollowStuck holds of every place, every slip and both ways: a clamp that is stuck is told within sixty ticks, and stays told. No condition. -/
import Derived.Test.YtnckecjcngcjbaaFollow
import Derived.Test.YtnckecjcngcjbaaLift
namespace Go.Proofs.Ytnckecjcngcjbaa.followStuck
open Go.ChangeShapes Go.WideShapes Go.ChangeAt Go.RowKit
set_option linter.unusedVariables false
attribute [local go_sem] cell_set_ite

def rnV (c k : Int) : Int := if k ≤ c then 0 else k - c
def tdV (c k : Int) : Int := if k < c + 40 then 0 else c + 40

theorem sub_small {a b : Int} (a0 : -1000 ≤ a) (a1 : a ≤ 1000) (b0 : -1000 ≤ b) (b1 : b ≤ 1000) : subV a b = a - b := by
  unfold subV
  rw [clV_in (n := a) (by omega), clV_in (n := b) (by omega), clV_in (by omega)]
theorem with_small {n : Int} (h0 : 0 ≤ n) (h1 : n ≤ 1000) : withV n 0 1099511627776 = n := by unfold withV; split <;> (try split) <;> (try split) <;> omega
theorem ap_up {p s k : Int} (p0 : 0 ≤ p) (s0 : -6 ≤ s) (s1 : s ≤ 6) (k0 : 0 ≤ k) (k1 : p + k < 300) : apV (rnV (6 + s) k) (p + (k + 1)) 0 (p + s) = rnV (6 + s) (k + 1) := by
  have h : neB (p + (k + 1)) (p + s) = decide (k + 1 ≤ 6 + s) := by
    unfold neB
    rw [sub_small (by omega) (by omega) (by omega) (by omega), decide_eq_decide]
    omega
  unfold apV rnV
  rw [if_neg (by omega), h]
  by_cases e : k + 1 ≤ 6 + s
  · rw [if_pos (decide_eq_true e), if_pos e]
  · rw [if_neg (by rw [decide_eq_false e]; simp), if_neg e, with_small (by split <;> omega) (by split <;> omega)]
    split <;> omega
theorem ap_down {p s k : Int} (p1 : p ≤ 300) (s0 : -6 ≤ s) (s1 : s ≤ 6) (k0 : 0 ≤ k) (k1 : k < p) : apV (rnV (6 - s) k) (p - (k + 1)) 0 (p + s) = rnV (6 - s) (k + 1) := by
  have h : neB (p - (k + 1)) (p + s) = decide (k + 1 ≤ 6 - s) := by
    unfold neB
    rw [sub_small (by omega) (by omega) (by omega) (by omega), decide_eq_decide]
    omega
  unfold apV rnV
  rw [if_neg (by omega), h]
  by_cases e : k + 1 ≤ 6 - s
  · rw [if_pos (decide_eq_true e), if_pos e]
  · rw [if_neg (by rw [decide_eq_false e]; simp), if_neg e, with_small (by split <;> omega) (by split <;> omega)]
    split <;> omega
theorem st_up {p k : Int} (p0 : 0 ≤ p) (k0 : 0 ≤ k) (k1 : p + k < 300) : stP (p + k) 0 300 = p + (k + 1) ∧ stH 0 = 0 := by
  obtain ⟨a, b⟩ := st_home (p := p + k) (w := 300) (by omega) (by omega) (by omega) (by omega) (h := 0) (by omega)
  refine ⟨a.trans ?_, b⟩
  unfold neV; rw [if_pos (by omega)]; omega
theorem st_down {p k : Int} (p1 : p ≤ 300) (k0 : 0 ≤ k) (k1 : k < p) : stP (p - k) 0 0 = p - (k + 1) ∧ stH 0 = 0 := by
  obtain ⟨a, b⟩ := st_home (p := p - k) (w := 0) (by omega) (by omega) (by omega) (by omega) (h := 0) (by omega)
  refine ⟨a.trans ?_, b⟩
  unfold neV; rw [if_neg (by omega), if_pos (by omega)]; omega
/-- How a round goes on: not told; told just now; told before. -/
theorem rounds {c k : Int} (c0 : 0 ≤ c) (c1 : c ≤ 12) (k0 : 0 ≤ k) :
    (slB (rnV c (k + 1)) = false ∧ tdV c k = 0 ∧ tdV c (k + 1) = 0) ∨ (slB (rnV c (k + 1)) = true ∧ tdV c k = 0 ∧ tdV c (k + 1) = k + 1) ∨
      (slB (rnV c (k + 1)) = true ∧ 0 < tdV c k ∧ tdV c (k + 1) = tdV c k) := by
  unfold slB
  rw [decide_eq_true_iff, decide_eq_false_iff_not]
  unfold rnV tdV
  rcases (by omega : k + 1 < c + 40 ∨ k + 1 = c + 40 ∨ c + 40 < k + 1) with h | h | h
  · left
    refine ⟨by split <;> omega, by rw [if_pos (by omega)], by rw [if_pos (by omega)]⟩
  · right; left
    refine ⟨by split <;> omega, by rw [if_pos (by omega)], by rw [if_neg (by omega)]; omega⟩
  · right; right
    refine ⟨by split <;> omega, by rw [if_neg (by omega)]; omega, by rw [if_neg (by omega), if_neg (by omega)]⟩

set_option maxRecDepth 100000 in
set_option maxHeartbeats 2000000 in
theorem way_up (v : Int) (p : Int) (hp : v % 301 = p) (v0 : 0 ≤ v) (v1 : v ≤ 65535) (z s : Int) (hs : z.tmod 7 = s) (z0 : -128 ≤ z) (z1 : z ≤ 127) (s0 : -6 ≤ s) (s1 : s ≤ 6) (W : World) :
    Calls Try.prog 5 #[.int .u16 v, .int .i8 z, .bool true] W fun e W' => e = .returned (.bool true) ∧ Below W.heap.size W W' := by
  have p0 : 0 ≤ p := by omega
  have p1 : p ≤ 300 := by omega
  have hz : IntKind.i8.wrap (z.tmod 7) = z.tmod 7 := by
    rw [hs]
    have h : IntKind.i8.wrap s = s := by unfold IntKind.wrap; simp [IntKind.signed, IntKind.bits]; omega
    exact h
  have A0 : Below W.heap.size W W := Below.refl _ _
  by_cases hR : 300 - p < 60
  · go_enter Try.func5, Try.ntmps5
    go_wp2_with (go_at_call 10; refine (law13_awake _).mono ?_; rintro e w' ⟨rfl, hb⟩)
    all_goals go_ret
    all_goals exact ⟨rfl, below_call (below_alloc_on A0 _) hb⟩
  · obtain ⟨R, hRR⟩ : ∃ R : Nat, 300 - p = R := ⟨(300 - p).toNat, by omega⟩
    obtain ⟨c, hc⟩ : ∃ c : Int, 6 + s = c := ⟨_, rfl⟩
    have c0 : 0 ≤ c := by omega
    have c1 : c ≤ 12 := by omega
    have hM : p - 300 < 300 - p := by omega
    have HCC := Lib.hid hc
    clear hc
    go_enter Try.func5, Try.ntmps5
    go_wp2
    clear hs hp hz v0 v1 z0 z1
    go_loopw [11, 12, 13] (fun r t i wr => ∃ k : Nat, k ≤ R ∧ i = .int .i64 ((k : Int) + 1) ∧ r = .int .i64 (rnV c k) ∧ t = .int .i64 (tdV c k) ∧ Below W.heap.size W wr ∧ Box wr W.heap.size #[.int .i64 (p + k), .int .i64 0]) (fun _ _ i _ => R + 1 - (intOf i).toNat)
    case atStart => exact ⟨0, Nat.zero_le _, rfl, by rw [show rnV c ((0 : Nat) : Int) = 0 by unfold rnV; rw [if_pos (by omega)]], by rw [show tdV c ((0 : Nat) : Int) = 0 by unfold tdV; rw [if_pos (by omega)]], below_alloc_on A0 _, by rw [show p + ((0 : Nat) : Int) = p by omega]; exact box_new W _ _⟩
    case round =>
      obtain ⟨k, hk, rfl, rfl, rfl, A1, B1⟩ := hrel
      obtain ⟨b0, b1, bf, bl⟩ := B1.two
      by_cases hlt : k < R
      · have hap := ap_up (p := p) (s := s) (k := k) (by omega) s0 s1 (by omega) (by omega)
        rw [HCC.out] at hap
        obtain ⟨g1, g2⟩ := st_up (p := p) (k := k) (by omega) (by omega) (by omega)
        have HS := Lib.hid (fun w => mo_step (p + k) 0 300 w)
        rw [g1, g2] at HS
        have HA := Lib.hid (fun w => fo_apart (rnV c k) (p + ((k : Int) + 1)) 0 (p + s) w)
        rw [hap] at HA
        have HT := Lib.hid (fun w => fo_stalled (rnV c ((k : Int) + 1)) w)
        have t0 : decide ((k : Int) + 1 ≤ 300 - p) = true := decide_eq_true (by omega)
        have hr := rounds c0 c1 (k := k) (by omega)
        clear hap g1 g2
        rcases hr with ⟨q1, q2, q3⟩ | ⟨q1, q2, q3⟩ | ⟨q1, q2, q3⟩
        all_goals
          rw [q1] at HT
          have Q3 := Lib.hid q3
          clear q1 q3
        · rw [q2] at *
          go_wp2_with (fail)
          refine (HS.out _).mono ?_
          rintro e w2 ⟨rfl, hb⟩
          have A2 := below_call A1 hb
          have B2 := B1.below hb
          clear hb A1 B1 b0 b1 bf bl
          obtain ⟨b0, b1, bf, bl⟩ := B2.two
          go_wp2_with (fail)
          refine (HA.out _).mono ?_
          rintro e w3 ⟨rfl, hb⟩
          have A3 := below_call (below_set_on (below_set_on A2 (p := ⟨W.heap.size, 0, none⟩) (Nat.le_refl _) _) (p := ⟨W.heap.size, 1, none⟩) (Nat.le_refl _) _) hb
          have B3 := (B2.two_set _ _).below hb
          clear hb A2 B2 b0 b1 bf bl
          go_wp2_with (go_at_call 8; refine (HT.out _).mono ?_; rintro e w' ⟨rfl, rfl⟩)
          go_roundw
          case rel => exact ⟨k + 1, by omega, by go_num, rfl, by rw [show ((k + 1 : Nat) : Int) = (k : Int) + 1 by omega, Q3.out], A3, B3⟩
          case measure => simp [intOf]; omega
        · rw [q2] at *
          go_wp2_with (fail)
          refine (HS.out _).mono ?_
          rintro e w2 ⟨rfl, hb⟩
          have A2 := below_call A1 hb
          have B2 := B1.below hb
          clear hb A1 B1 b0 b1 bf bl
          obtain ⟨b0, b1, bf, bl⟩ := B2.two
          go_wp2_with (fail)
          refine (HA.out _).mono ?_
          rintro e w3 ⟨rfl, hb⟩
          have A3 := below_call (below_set_on (below_set_on A2 (p := ⟨W.heap.size, 0, none⟩) (Nat.le_refl _) _) (p := ⟨W.heap.size, 1, none⟩) (Nat.le_refl _) _) hb
          have B3 := (B2.two_set _ _).below hb
          clear hb A2 B2 b0 b1 bf bl
          go_wp2_with (go_at_call 8; refine (HT.out _).mono ?_; rintro e w' ⟨rfl, rfl⟩)
          go_roundw
          case rel => exact ⟨k + 1, by omega, by go_num, rfl, by rw [show ((k + 1 : Nat) : Int) = (k : Int) + 1 by omega, Q3.out], A3, B3⟩
          case measure => simp [intOf]; omega
        · have t1 := decide_eq_true q2
          have t2 : (tdV c k == 0) = false := by simp; omega
          go_wp2_with (fail)
          refine (HS.out _).mono ?_
          rintro e w2 ⟨rfl, hb⟩
          have A2 := below_call A1 hb
          have B2 := B1.below hb
          clear hb A1 B1 b0 b1 bf bl
          obtain ⟨b0, b1, bf, bl⟩ := B2.two
          go_wp2_with (fail)
          refine (HA.out _).mono ?_
          rintro e w3 ⟨rfl, hb⟩
          have A3 := below_call (below_set_on (below_set_on A2 (p := ⟨W.heap.size, 0, none⟩) (Nat.le_refl _) _) (p := ⟨W.heap.size, 1, none⟩) (Nat.le_refl _) _) hb
          have B3 := (B2.two_set _ _).below hb
          clear hb A2 B2 b0 b1 bf bl
          go_wp2_with (go_at_call 8; refine (HT.out _).mono ?_; rintro e w' ⟨rfl, rfl⟩)
          go_roundw
          case rel => exact ⟨k + 1, by omega, by go_num, rfl, by rw [show ((k + 1 : Nat) : Int) = (k : Int) + 1 by omega, Q3.out], A3, B3⟩
          case measure => simp [intOf]; omega
      · obtain rfl : k = R := by omega
        have t0 : decide ((k : Int) + 1 ≤ 300 - p) = false := decide_eq_false (by omega)
        have q0 : tdV c k = c + 40 := by unfold tdV; rw [if_neg (by omega)]
        rw [q0]
        clear q0
        go_wp2_with (go_at_call 10; refine (law13_awake _).mono ?_; rintro e w' ⟨rfl, hb⟩)
        all_goals go_ret
        all_goals exact ⟨rfl, below_call A1 hb⟩

set_option maxRecDepth 100000 in
set_option maxHeartbeats 2000000 in
theorem way_down (v : Int) (p : Int) (hp : v % 301 = p) (v0 : 0 ≤ v) (v1 : v ≤ 65535) (z s : Int) (hs : z.tmod 7 = s) (z0 : -128 ≤ z) (z1 : z ≤ 127) (s0 : -6 ≤ s) (s1 : s ≤ 6) (W : World) :
    Calls Try.prog 5 #[.int .u16 v, .int .i8 z, .bool false] W fun e W' => e = .returned (.bool true) ∧ Below W.heap.size W W' := by
  have p0 : 0 ≤ p := by omega
  have p1 : p ≤ 300 := by omega
  have hz : IntKind.i8.wrap (z.tmod 7) = z.tmod 7 := by
    rw [hs]
    have h : IntKind.i8.wrap s = s := by unfold IntKind.wrap; simp [IntKind.signed, IntKind.bits]; omega
    exact h
  have A0 : Below W.heap.size W W := Below.refl _ _
  by_cases hR : p < 60
  · go_enter Try.func5, Try.ntmps5
    go_wp2_with (go_at_call 10; refine (law13_awake _).mono ?_; rintro e w' ⟨rfl, hb⟩)
    all_goals go_ret
    all_goals exact ⟨rfl, below_call (below_alloc_on A0 _) hb⟩
  · obtain ⟨R, rfl⟩ : ∃ R : Nat, p = R := ⟨p.toNat, by omega⟩
    obtain ⟨c, hc⟩ : ∃ c : Int, 6 - s = c := ⟨_, rfl⟩
    have c0 : 0 ≤ c := by omega
    have c1 : c ≤ 12 := by omega
    have hM : ¬ (R : Int) < -(R : Int) := by omega
    have HCC := Lib.hid hc
    clear hc
    go_enter Try.func5, Try.ntmps5
    go_wp2
    clear hs hp hz v0 v1 z0 z1
    go_loopw [11, 12, 13] (fun r t i wr => ∃ k : Nat, k ≤ R ∧ i = .int .i64 ((k : Int) + 1) ∧ r = .int .i64 (rnV c k) ∧ t = .int .i64 (tdV c k) ∧ Below W.heap.size W wr ∧ Box wr W.heap.size #[.int .i64 ((R : Int) - k), .int .i64 0]) (fun _ _ i _ => R + 1 - (intOf i).toNat)
    case atStart => exact ⟨0, Nat.zero_le _, rfl, by rw [show rnV c ((0 : Nat) : Int) = 0 by unfold rnV; rw [if_pos (by omega)]], by rw [show tdV c ((0 : Nat) : Int) = 0 by unfold tdV; rw [if_pos (by omega)]], below_alloc_on A0 _, by rw [show (R : Int) - ((0 : Nat) : Int) = (R : Int) by omega]; exact box_new W _ _⟩
    case round =>
      obtain ⟨k, hk, rfl, rfl, rfl, A1, B1⟩ := hrel
      obtain ⟨b0, b1, bf, bl⟩ := B1.two
      by_cases hlt : k < R
      · have hap := ap_down (p := (R : Int)) (s := s) (k := k) (by omega) s0 s1 (by omega) (by omega)
        rw [HCC.out] at hap
        obtain ⟨g1, g2⟩ := st_down (p := (R : Int)) (k := k) (by omega) (by omega) (by omega)
        have HS := Lib.hid (fun w => mo_step ((R : Int) - k) 0 0 w)
        rw [g1, g2] at HS
        have HA := Lib.hid (fun w => fo_apart (rnV c k) ((R : Int) - ((k : Int) + 1)) 0 ((R : Int) + s) w)
        rw [hap] at HA
        have HT := Lib.hid (fun w => fo_stalled (rnV c ((k : Int) + 1)) w)
        have t0 : decide ((k : Int) + 1 ≤ (R : Int)) = true := decide_eq_true (by omega)
        have hr := rounds c0 c1 (k := k) (by omega)
        clear hap g1 g2
        rcases hr with ⟨q1, q2, q3⟩ | ⟨q1, q2, q3⟩ | ⟨q1, q2, q3⟩
        all_goals
          rw [q1] at HT
          have Q3 := Lib.hid q3
          clear q1 q3
        · rw [q2] at *
          go_wp2_with (fail)
          refine (HS.out _).mono ?_
          rintro e w2 ⟨rfl, hb⟩
          have A2 := below_call A1 hb
          have B2 := B1.below hb
          clear hb A1 B1 b0 b1 bf bl
          obtain ⟨b0, b1, bf, bl⟩ := B2.two
          go_wp2_with (fail)
          refine (HA.out _).mono ?_
          rintro e w3 ⟨rfl, hb⟩
          have A3 := below_call (below_set_on (below_set_on A2 (p := ⟨W.heap.size, 0, none⟩) (Nat.le_refl _) _) (p := ⟨W.heap.size, 1, none⟩) (Nat.le_refl _) _) hb
          have B3 := (B2.two_set _ _).below hb
          clear hb A2 B2 b0 b1 bf bl
          go_wp2_with (go_at_call 8; refine (HT.out _).mono ?_; rintro e w' ⟨rfl, rfl⟩)
          go_roundw
          case rel => exact ⟨k + 1, by omega, by go_num, rfl, by rw [show ((k + 1 : Nat) : Int) = (k : Int) + 1 by omega, Q3.out], A3, B3⟩
          case measure => simp [intOf]; omega
        · rw [q2] at *
          go_wp2_with (fail)
          refine (HS.out _).mono ?_
          rintro e w2 ⟨rfl, hb⟩
          have A2 := below_call A1 hb
          have B2 := B1.below hb
          clear hb A1 B1 b0 b1 bf bl
          obtain ⟨b0, b1, bf, bl⟩ := B2.two
          go_wp2_with (fail)
          refine (HA.out _).mono ?_
          rintro e w3 ⟨rfl, hb⟩
          have A3 := below_call (below_set_on (below_set_on A2 (p := ⟨W.heap.size, 0, none⟩) (Nat.le_refl _) _) (p := ⟨W.heap.size, 1, none⟩) (Nat.le_refl _) _) hb
          have B3 := (B2.two_set _ _).below hb
          clear hb A2 B2 b0 b1 bf bl
          go_wp2_with (go_at_call 8; refine (HT.out _).mono ?_; rintro e w' ⟨rfl, rfl⟩)
          go_roundw
          case rel => exact ⟨k + 1, by omega, by go_num, rfl, by rw [show ((k + 1 : Nat) : Int) = (k : Int) + 1 by omega, Q3.out], A3, B3⟩
          case measure => simp [intOf]; omega
        · have t1 := decide_eq_true q2
          have t2 : (tdV c k == 0) = false := by simp; omega
          go_wp2_with (fail)
          refine (HS.out _).mono ?_
          rintro e w2 ⟨rfl, hb⟩
          have A2 := below_call A1 hb
          have B2 := B1.below hb
          clear hb A1 B1 b0 b1 bf bl
          obtain ⟨b0, b1, bf, bl⟩ := B2.two
          go_wp2_with (fail)
          refine (HA.out _).mono ?_
          rintro e w3 ⟨rfl, hb⟩
          have A3 := below_call (below_set_on (below_set_on A2 (p := ⟨W.heap.size, 0, none⟩) (Nat.le_refl _) _) (p := ⟨W.heap.size, 1, none⟩) (Nat.le_refl _) _) hb
          have B3 := (B2.two_set _ _).below hb
          clear hb A2 B2 b0 b1 bf bl
          go_wp2_with (go_at_call 8; refine (HT.out _).mono ?_; rintro e w' ⟨rfl, rfl⟩)
          go_roundw
          case rel => exact ⟨k + 1, by omega, by go_num, rfl, by rw [show ((k + 1 : Nat) : Int) = (k : Int) + 1 by omega, Q3.out], A3, B3⟩
          case measure => simp [intOf]; omega
      · obtain rfl : k = R := by omega
        have t0 : decide ((k : Int) + 1 ≤ (k : Int)) = false := decide_eq_false (by omega)
        have q0 : tdV c k = c + 40 := by unfold tdV; rw [if_neg (by omega)]
        rw [q0]
        clear q0
        go_wp2_with (go_at_call 10; refine (law13_awake _).mono ?_; rintro e w' ⟨rfl, hb⟩)
        all_goals go_ret
        all_goals exact ⟨rfl, below_call A1 hb⟩

theorem walk (v : Int) (wv : (Lit.int .u16 v).wf = true) (z : Int) (wz : (Lit.int .i8 z).wf = true) (up : Bool) (W : World) :
    Calls Try.prog 5 #[.int .u16 v, .int .i8 z, .bool up] W fun e W' => e = .returned (.bool true) ∧ Below W.heap.size W W' := by
  have v0 : 0 ≤ v ∧ v ≤ 65535 := by simp only [Lit.wf, IntKind.min, IntKind.max, IntKind.signed, IntKind.bits, Bool.and_eq_true] at wv; simpa using wv
  have z0 : -128 ≤ z ∧ z ≤ 127 := by simp only [Lit.wf, IntKind.min, IntKind.max, IntKind.signed, IntKind.bits, Bool.and_eq_true] at wz; simpa using wz
  have hm : -6 ≤ z.tmod 7 ∧ z.tmod 7 ≤ 6 := by
    have h1 := Int.tmod_lt_of_pos z (b := 7) (by omega)
    have h2 := Int.lt_tmod_of_pos z (b := 7) (by omega)
    omega
  cases up
  · exact way_down v _ rfl v0.1 v0.2 z _ rfl z0.1 z0.2 hm.1 hm.2 W
  · exact way_up v _ rfl v0.1 v0.2 z _ rfl z0.1 z0.2 hm.1 hm.2 W

theorem lifted (os : Os) (started : os.Started) (H : Type) (enc : TypeId × Value → H) :
    ReturnsInHanded {} Try.checked os 5 .any (Rows.followStuckSpec.pre6 enc Try.prog Try.f5 Rows.followStuckRow.domain false) (Rows.followStuckSpec.post enc Try.prog Try.f5 false true false false) := by
  refine law_lift started (by kernel_rfl) Try.func5 rfl rfl ?_ (by kernel_rfl)
    (ChangeSpec.witness6 (enc := enc) (C := Try.checked) false ⟨#[], #[.int .u16 0, .int .i8 0, .bool false], []⟩ 8 (by kernel_rfl) (by kernel_rfl) (by kernel_rfl) (by kernel_rfl)) ?_
  · intro ds hl
    match ds, hl with
    | [_, _, _], _ => exact ⟨rfl, rfl, rfl⟩
  · intro W base args ds p hval hA hlt hwt
    rw [Try.params5] at hA hval hwt
    obtain ⟨v0, vs0, d0, ds0, p0, q0, hargs, rfl, rfl, h0, r0⟩ := trodAll_cons hA
    obtain ⟨v1, vs1, d1, ds1, p1, q1, rfl, rfl, rfl, h1, r1⟩ := trodAll_cons r0
    obtain ⟨v2, vs2, d2, ds2, p2, q2, rfl, rfl, rfl, h2, r2⟩ := trodAll_cons r1
    obtain ⟨rfl, rfl, rfl⟩ := trodAll_nil r2
    obtain rfl : args = #[v0, v1, v2] := by cases args; simp_all
    obtain ⟨a0, rfl, rfl, rfl, w0⟩ := open_int Try.underlying31 (hval 0 31 v0 rfl rfl) h0
    obtain ⟨a1, rfl, rfl, rfl, w1⟩ := open_int Try.underlying29 (hval 1 29 v1 rfl rfl) h1
    obtain ⟨a2, rfl, rfl, rfl⟩ := open_bool Try.underlying4 (hval 2 4 v2 rfl rfl) h2
    exact walk a0 w0 a1 w1 a2 W

theorem over : Rows.followStuckRow.holds Try.pinned (OpenSpec.ofChange Rows.followStuckSpec) :=
  OpenClaim.holds_of_wide 5 Try.f5 rfl rfl rfl rfl rfl rfl rfl ⟨rfl, rfl, rfl, rfl, rfl⟩ rfl rfl rfl rfl rfl (by kernel_rfl) Try.func5 (by kernel_rfl)
    (of_decide_eq_true (by kernel_rfl)) (by unfold Func.isWrapper; first | (rw [if_pos (by decide +kernel)]; kernel_rfl) | (rw [if_neg (by decide +kernel)]; exact ⟨rfl, rfl⟩))
    (fun os started H enc _ => lifted os started H enc)

theorem proved : Rows.FollowStuckSaid := over
#print axioms proved
end Go.Proofs.Ytnckecjcngcjbaa.followStuck
