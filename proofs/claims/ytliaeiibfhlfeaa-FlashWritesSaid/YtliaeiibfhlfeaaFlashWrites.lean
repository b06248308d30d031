/- FlashWrites holds of every two slots, every slot's number and every text: what goes well is there, behind a tick for each four bytes. No condition. -/
import Derived.Test.YtliaeiibfhlfeaaFlashSays
import Derived.ChangeMaps5
namespace Go.Proofs.Ytliaeiibfhlfeaa.flashWrites
open Go.ChangeShapes Go.WideShapes Go.ChangeAt Go.RowKit
set_option linter.unusedVariables false
attribute [local go_sem] cell_set_ite Near.cell Near.frozen flashSays.eq_slots

theorem Box.six_set {w : World} {g : Nat} {v0 v1 v2 v3 v4 v5 : Value} (h : Box w g #[v0, v1, v2, v3, v4, v5]) (x0 x1 x2 x3 x4 x5 : Value) :
    Box ((((((w.setCell ⟨g, 0, none⟩ x0).setCell ⟨g, 1, none⟩ x1).setCell ⟨g, 2, none⟩ x2).setCell ⟨g, 3, none⟩ x3).setCell ⟨g, 4, none⟩ x4).setCell ⟨g, 5, none⟩ x5) g #[x0, x1, x2, x3, x4, x5] :=
  (((((h.set (i := 0) (by simp) x0).set (i := 1) (by simp) x1).set (i := 2) (by simp) x2).set (i := 3) (by simp) x3).set (i := 4) (by simp) x4).set (i := 5) (by simp) x5

theorem nx_at {x : Int} (h0 : 0 ≤ x) (h1 : x ≤ 64) : nxV x = x + 4 := by unfold nxV; omega

set_option maxRecDepth 100000 in
set_option maxHeartbeats 1000000 in
theorem walk0 (W : World) (a b : ByteArray) (v : Int) (s : ByteArray) (la : (a.size : Int) ≤ 100) (lb : (b.size : Int) ≤ 100) (hv : wrap64 (v.tmod 2) = 0) (g1 : 1 ≤ (s.size : Int)) (g2 : (s.size : Int) ≤ 64) :
    Calls Try.prog 3 #[.agg #[.string a, .string b], .int .u8 v, .string s] W fun e W' => e = .returned (.bool true) ∧ Below W.heap.size W W' := by
  have d0 := decide_eq_false (p := 100 < (a.size : Int)) (by omega)
  have d1 := decide_eq_false (p := 100 < (b.size : Int)) (by omega)
  have d2 := decide_eq_false (p := 64 < (s.size : Int)) (by omega)
  have d3 := decide_eq_false (p := (s.size : Int) < 1) (by omega)
  obtain ⟨m, hm⟩ : ∃ m : Nat, ((s.size : Int) + 3) / 4 = (m : Int) := ⟨(((s.size : Int) + 3) / 4).toNat, by omega⟩
  have m1 : 1 ≤ m := by omega
  have m2 : m ≤ 16 := by omega
  have HM := Lib.hid hm
  have H1 := Lib.hid (show ∀ w, Calls Try.prog 6 #[.agg #[.string a, .string b, .bool false, .int .i64 0, .string ⟨#[]⟩, .int .i64 0], .int .i64 0, .string s] w fun x w' => x = .returned (.tuple #[.agg #[.string ⟨#[]⟩, .string b, .bool true, .int .i64 0, .string s, .int .i64 0], .int .i64 0]) ∧ Below w.heap.size w w' from fun w => fl_begin_ok a b 0 ⟨#[]⟩ 0 0 s (by omega) g1 g2 w)
  have A0 : Below W.heap.size W W := Below.refl _ _
  clear hm
  go_enter Try.func3, Try.ntmps3
  go_wp2_with (fail)
  refine (H1.out _).mono ?_
  rintro e w1 ⟨rfl, hb⟩
  have A1 := below_alloc_on (below_call (below_alloc_on A0 _) hb) (.cells #[.string ⟨#[]⟩, .string b, .bool true, .int .i64 0, .string s, .int .i64 0] 25)
  have B1 := ((box_new W #[.string a, .string b] 22).below hb).alloc (.cells #[.string ⟨#[]⟩, .string b, .bool true, .int .i64 0, .string s, .int .i64 0] 25)
  have D1 := box_new w1 #[.string ⟨#[]⟩, .string b, .bool true, .int .i64 0, .string s, .int .i64 0] 25
  have n1 : ¬ W.heap.size = w1.heap.size := by have := hb.size; simp at this; omega
  have n2 : W.heap.size ≤ w1.heap.size := by have := hb.size; simp at this; omega
  clear hb A0 H1
  go_wp2
  clear hv
  generalize w1.alloc (.cells #[.string ⟨#[]⟩, .string b, .bool true, .int .i64 0, .string s, .int .i64 0] 25) = w2 at *
  generalize w1.heap.size = g at *
  simp only [HM.out]
  go_loopw [11] (fun i wr => ∃ j : Nat, i = .int .i64 ((j : Int) + 1) ∧ j ≤ m ∧ Below W.heap.size W wr ∧ Box wr W.heap.size #[.string a, .string b] ∧
    ((j < m ∧ Box wr g #[.string (fst s (4 * (j : Int))), .string b, .bool true, .int .i64 0, .string s, .int .i64 (4 * (j : Int))]) ∨ (j = m ∧ Box wr g #[.string s, .string b, .bool false, .int .i64 0, .string ⟨#[]⟩, .int .i64 0]))) (fun i _ => m + 1 - (intOf i).toNat)
  case atStart => exact ⟨0, rfl, by omega, A1, B1, .inl ⟨by omega, by rw [show 4 * ((0 : Nat) : Int) = 0 from rfl, fst_none s (by omega)]; exact D1⟩⟩
  case round =>
    clear A1 B1 D1
    obtain ⟨j, rfl, hj, A1, B1, hst⟩ := hrel
    have hm := HM.out
    obtain ⟨b0, b1, bf, bl⟩ := B1.two
    rcases hst with ⟨hjm, D1⟩ | ⟨rfl, D1⟩
    · obtain ⟨c0, c1, c2, c3, c4, c5, cf, cl⟩ := D1.six
      have hx := nx_at (x := 4 * (j : Int)) (by omega) (by omega)
      by_cases hl : j + 1 < m
      · have e4 : 4 * (j : Int) + 4 < (s.size : Int) := by omega
        have HS := Lib.hid (show ∀ w, Calls Try.prog 7 #[.agg #[.string (fst s (4 * (j : Int))), .string b, .bool true, .int .i64 0, .string s, .int .i64 (4 * (j : Int))], .bool true] w fun x w' => x = .returned (.tuple #[.agg #[.string (fst s (4 * (j : Int) + 4)), .string b, .bool true, .int .i64 0, .string s, .int .i64 (4 * (j : Int) + 4)], .int .i64 0]) ∧ Below w.heap.size w w' from fun w => by
          have h := fl_step_goes (fst s (4 * (j : Int))) b 0 s (4 * (j : Int)) (by omega) w
          rw [hx] at h
          exact h)
        have HE := Lib.hid (show fst s (4 * (j : Int) + 4) = fst s (4 * ((j + 1 : Nat) : Int)) from congrArg _ (by omega))
        have hs : ∀ t w, Try.prog.underlying t = some .string → (Instr.slice t (.string s) none (some (.int .i64 (4 * ((j : Int) + 1)))) none).run Try.prog w = .ok (.string (fst s (4 * (j : Int) + 4))) w := fun t w ht =>
          (run_slice_string_h (ht := ht) (h0 := by omega) (h2 := by omega) ..).trans (by rw [show 4 * (j : Int) + 4 = 4 * ((j : Int) + 1) by omega]; rfl)
        have t1 : (j : Int) + 1 < (m : Int) := by omega
        have t2 := decide_eq_true t1
        have t3 : 4 * ((j : Int) + 1) < (s.size : Int) := by omega
        have t4 : ((j : Int) + 1 == (m : Int)) = false := by simp; omega
        obtain ⟨P, hP⟩ : ∃ P, fst s (4 * (j : Int) + 4) = P := ⟨_, rfl⟩
        obtain ⟨Q, hQ⟩ : ∃ Q, fst s (4 * (j : Int)) = Q := ⟨_, rfl⟩
        rw [hP] at HS HE hs
        rw [hQ] at HS D1 c0
        clear hP hQ hx
        go_wp2_with (fail)
        refine (HS.out _).mono ?_
        rintro e w3 ⟨rfl, hb⟩
        have A3 := below_call A1 hb
        have B3 := B1.below hb
        have D3 := D1.below hb
        clear hb A1 B1 D1 c0 c1 c2 c3 c4 c5 cf cl b0 b1 bf bl
        obtain ⟨c0, c1, c2, c3, c4, c5, cf, cl⟩ := D3.six
        go_wp2
        have B4 : Box ((((((w3.setCell ⟨g, 0, none⟩ (.string P)).setCell ⟨g, 1, none⟩ (.string b)).setCell ⟨g, 2, none⟩ (.bool true)).setCell ⟨g, 3, none⟩ (.int .i64 0)).setCell ⟨g, 4, none⟩ (.string s)).setCell ⟨g, 5, none⟩ (.int .i64 (4 * (j : Int) + 4))) W.heap.size #[.string a, .string b] := ((((((B3.far (p := ⟨g, 0, none⟩) (fun h => n1 h.symm) _).far (p := ⟨g, 1, none⟩) (fun h => n1 h.symm) _).far (p := ⟨g, 2, none⟩) (fun h => n1 h.symm) _).far (p := ⟨g, 3, none⟩) (fun h => n1 h.symm) _).far (p := ⟨g, 4, none⟩) (fun h => n1 h.symm) _).far (p := ⟨g, 5, none⟩) (fun h => n1 h.symm) _)
        have D4 := Box.six_set D3 (.string P) (.string b) (.bool true) (.int .i64 0) (.string s) (.int .i64 (4 * (j : Int) + 4))
        have A4 : Below W.heap.size W ((((((w3.setCell ⟨g, 0, none⟩ (.string P)).setCell ⟨g, 1, none⟩ (.string b)).setCell ⟨g, 2, none⟩ (.bool true)).setCell ⟨g, 3, none⟩ (.int .i64 0)).setCell ⟨g, 4, none⟩ (.string s)).setCell ⟨g, 5, none⟩ (.int .i64 (4 * (j : Int) + 4))) := by (repeat (first | (with_reducible exact Below.refl _ _) | (with_reducible assumption) | (with_reducible refine Near.up _ ?_) | (with_reducible refine below_alloc_on ?_ _) | (with_reducible refine below_set_on ?_ (by first | (simp; done) | (simp; omega) | omega) _)))
        generalize ((((((w3.setCell ⟨g, 0, none⟩ (.string P)).setCell ⟨g, 1, none⟩ (.string b)).setCell ⟨g, 2, none⟩ (.bool true)).setCell ⟨g, 3, none⟩ (.int .i64 0)).setCell ⟨g, 4, none⟩ (.string s)).setCell ⟨g, 5, none⟩ (.int .i64 (4 * (j : Int) + 4))) = w4 at *
        clear A3 B3 D3 c0 c1 c2 c3 c4 c5 cf cl
        obtain ⟨b0, b1, bf, bl⟩ := B4.two
        obtain ⟨c0, c1, c2, c3, c4, c5, cf, cl⟩ := D4.six
        refine wp_region_calm (by kernel_rfl) (by kernel_rfl) ?_
        repeat (go_big_quiet_step ((fail)))
        refine wpQuiet_nil ?_
        intro _ hw'
        obtain ⟨u, rfl⟩ := hw'
        go_wp2
        go_roundw
        case rel => exact ⟨j + 1, by go_num, by omega, u.up A4, B4.near u, .inl ⟨by omega, by rw [← HE.out, show 4 * ((j + 1 : Nat) : Int) = 4 * (j : Int) + 4 by omega]; exact D4.near u⟩⟩
        case measure => simp [intOf]; omega
      · have e4 : (s.size : Int) ≤ 4 * (j : Int) + 4 := by omega
        have HS := Lib.hid (show ∀ w, Calls Try.prog 7 #[.agg #[.string (fst s (4 * (j : Int))), .string b, .bool true, .int .i64 0, .string s, .int .i64 (4 * (j : Int))], .bool true] w fun x w' => x = .returned (.tuple #[.agg #[.string s, .string b, .bool false, .int .i64 0, .string ⟨#[]⟩, .int .i64 0], .int .i64 1]) ∧ Below w.heap.size w w' from fun w =>
          fl_step_done (fst s (4 * (j : Int))) b 0 s (4 * (j : Int)) (by omega) w)
        have t0 : (j : Int) + 1 ≤ (m : Int) := by omega
        have t1 : ¬ (j : Int) + 1 < (m : Int) := by omega
        have t2 := decide_eq_false t1
        have t3 : ¬ 4 * ((j : Int) + 1) < (s.size : Int) := by omega
        have t4 : ((j : Int) + 1 == (m : Int)) = true := by simp; omega
        have t5 : (if (s.size : Int) < 4 * ((j : Int) + 1) then (s.size : Int) else 4 * ((j : Int) + 1)) = (s.size : Int) := by split <;> omega
        obtain ⟨Q, hQ⟩ : ∃ Q, fst s (4 * (j : Int)) = Q := ⟨_, rfl⟩
        rw [hQ] at HS D1 c0
        clear hQ hx
        go_wp2_with (fail)
        refine (HS.out _).mono ?_
        rintro e w3 ⟨rfl, hb⟩
        have A3 := below_call A1 hb
        have B3 := B1.below hb
        have D3 := D1.below hb
        clear hb A1 B1 D1 c0 c1 c2 c3 c4 c5 cf cl b0 b1 bf bl
        obtain ⟨c0, c1, c2, c3, c4, c5, cf, cl⟩ := D3.six
        go_wp2
        have B4 : Box ((((((w3.setCell ⟨g, 0, none⟩ (.string s)).setCell ⟨g, 1, none⟩ (.string b)).setCell ⟨g, 2, none⟩ (.bool false)).setCell ⟨g, 3, none⟩ (.int .i64 0)).setCell ⟨g, 4, none⟩ (.string ⟨#[]⟩)).setCell ⟨g, 5, none⟩ (.int .i64 0)) W.heap.size #[.string a, .string b] := ((((((B3.far (p := ⟨g, 0, none⟩) (fun h => n1 h.symm) _).far (p := ⟨g, 1, none⟩) (fun h => n1 h.symm) _).far (p := ⟨g, 2, none⟩) (fun h => n1 h.symm) _).far (p := ⟨g, 3, none⟩) (fun h => n1 h.symm) _).far (p := ⟨g, 4, none⟩) (fun h => n1 h.symm) _).far (p := ⟨g, 5, none⟩) (fun h => n1 h.symm) _)
        have D4 := Box.six_set D3 (.string s) (.string b) (.bool false) (.int .i64 0) (.string ⟨#[]⟩) (.int .i64 0)
        have A4 : Below W.heap.size W ((((((w3.setCell ⟨g, 0, none⟩ (.string s)).setCell ⟨g, 1, none⟩ (.string b)).setCell ⟨g, 2, none⟩ (.bool false)).setCell ⟨g, 3, none⟩ (.int .i64 0)).setCell ⟨g, 4, none⟩ (.string ⟨#[]⟩)).setCell ⟨g, 5, none⟩ (.int .i64 0)) := by (repeat (first | (with_reducible exact Below.refl _ _) | (with_reducible assumption) | (with_reducible refine Near.up _ ?_) | (with_reducible refine below_alloc_on ?_ _) | (with_reducible refine below_set_on ?_ (by first | (simp; done) | (simp; omega) | omega) _)))
        generalize ((((((w3.setCell ⟨g, 0, none⟩ (.string s)).setCell ⟨g, 1, none⟩ (.string b)).setCell ⟨g, 2, none⟩ (.bool false)).setCell ⟨g, 3, none⟩ (.int .i64 0)).setCell ⟨g, 4, none⟩ (.string ⟨#[]⟩)).setCell ⟨g, 5, none⟩ (.int .i64 0)) = w4 at *
        clear A3 B3 D3 c0 c1 c2 c3 c4 c5 cf cl
        obtain ⟨b0, b1, bf, bl⟩ := B4.two
        obtain ⟨c0, c1, c2, c3, c4, c5, cf, cl⟩ := D4.six
        refine wp_region_calm (by kernel_rfl) (by kernel_rfl) ?_
        repeat (go_big_quiet_step ((fail)))
        refine wpQuiet_nil ?_
        intro _ hw'
        obtain ⟨u, rfl⟩ := hw'
        go_wp2
        go_roundw
        case rel => exact ⟨j + 1, by go_num, by omega, u.up A4, B4.near u, .inr ⟨by omega, D4.near u⟩⟩
        case measure => simp [intOf]; omega
    · obtain ⟨c0, c1, c2, c3, c4, c5, cf, cl⟩ := D1.six
      have t0 : ¬ (j : Int) + 1 ≤ (j : Int) := by omega
      have HI := Lib.hid (fun w => fl_step_idle s b 0 ⟨#[]⟩ 0 false w)
      have HC := Lib.hid (fun w => fl_cut_idle s b 0 ⟨#[]⟩ 0 ⟨#[110, 111]⟩ w)
      go_wp2_with (fail)
      refine (HI.out _).mono ?_
      rintro e w3 ⟨rfl, hb⟩
      have A3 := below_alloc_on (below_call A1 hb) (.cells #[.string s, .string b, .bool false, .int .i64 0, .string ⟨#[]⟩, .int .i64 0] 25)
      have D3 := (D1.below hb).alloc (.cells #[.string s, .string b, .bool false, .int .i64 0, .string ⟨#[]⟩, .int .i64 0] 25)
      have E3 := box_new w3 #[.string s, .string b, .bool false, .int .i64 0, .string ⟨#[]⟩, .int .i64 0] 25
      clear hb A1 B1 D1 c0 c1 c2 c3 c4 c5 cf cl b0 b1 bf bl
      go_wp2
      generalize w3.alloc (.cells #[.string s, .string b, .bool false, .int .i64 0, .string ⟨#[]⟩, .int .i64 0] 25) = w4 at *
      generalize w3.heap.size = g3 at *
      obtain ⟨c0, c1, c2, c3, c4, c5, cf, cl⟩ := D3.six
      obtain ⟨y0, y1, y2, y3, y4, y5, yf, yl⟩ := E3.six
      refine wp_region_calm (by kernel_rfl) (by kernel_rfl) ?_
      repeat (go_big_quiet_step ((first | ((go_at_call 8; exact calm_of _ (HC.out _))) | ((go_at_call 5; exact calm_of _ (law15_awake _))))))
      refine wpQuiet_nil ?_
      intro _ hw'
      obtain ⟨u, rfl⟩ := hw'
      go_wp2
      all_goals go_ret
      all_goals exact ⟨rfl, u.up A3⟩

set_option maxRecDepth 100000 in
set_option maxHeartbeats 1000000 in
theorem walk1 (W : World) (a b : ByteArray) (v : Int) (s : ByteArray) (la : (a.size : Int) ≤ 100) (lb : (b.size : Int) ≤ 100) (hv : wrap64 (v.tmod 2) = 1) (g1 : 1 ≤ (s.size : Int)) (g2 : (s.size : Int) ≤ 64) :
    Calls Try.prog 3 #[.agg #[.string a, .string b], .int .u8 v, .string s] W fun e W' => e = .returned (.bool true) ∧ Below W.heap.size W W' := by
  have d0 := decide_eq_false (p := 100 < (a.size : Int)) (by omega)
  have d1 := decide_eq_false (p := 100 < (b.size : Int)) (by omega)
  have d2 := decide_eq_false (p := 64 < (s.size : Int)) (by omega)
  have d3 := decide_eq_false (p := (s.size : Int) < 1) (by omega)
  obtain ⟨m, hm⟩ : ∃ m : Nat, ((s.size : Int) + 3) / 4 = (m : Int) := ⟨(((s.size : Int) + 3) / 4).toNat, by omega⟩
  have m1 : 1 ≤ m := by omega
  have m2 : m ≤ 16 := by omega
  have HM := Lib.hid hm
  have H1 := Lib.hid (show ∀ w, Calls Try.prog 6 #[.agg #[.string a, .string b, .bool false, .int .i64 0, .string ⟨#[]⟩, .int .i64 0], .int .i64 1, .string s] w fun x w' => x = .returned (.tuple #[.agg #[.string a, .string ⟨#[]⟩, .bool true, .int .i64 1, .string s, .int .i64 0], .int .i64 0]) ∧ Below w.heap.size w w' from fun w => fl_begin_ok a b 0 ⟨#[]⟩ 0 1 s (by omega) g1 g2 w)
  have A0 : Below W.heap.size W W := Below.refl _ _
  clear hm
  go_enter Try.func3, Try.ntmps3
  go_wp2_with (fail)
  refine (H1.out _).mono ?_
  rintro e w1 ⟨rfl, hb⟩
  have A1 := below_alloc_on (below_call (below_alloc_on A0 _) hb) (.cells #[.string a, .string ⟨#[]⟩, .bool true, .int .i64 1, .string s, .int .i64 0] 25)
  have B1 := ((box_new W #[.string a, .string b] 22).below hb).alloc (.cells #[.string a, .string ⟨#[]⟩, .bool true, .int .i64 1, .string s, .int .i64 0] 25)
  have D1 := box_new w1 #[.string a, .string ⟨#[]⟩, .bool true, .int .i64 1, .string s, .int .i64 0] 25
  have n1 : ¬ W.heap.size = w1.heap.size := by have := hb.size; simp at this; omega
  have n2 : W.heap.size ≤ w1.heap.size := by have := hb.size; simp at this; omega
  clear hb A0 H1
  go_wp2
  clear hv
  generalize w1.alloc (.cells #[.string a, .string ⟨#[]⟩, .bool true, .int .i64 1, .string s, .int .i64 0] 25) = w2 at *
  generalize w1.heap.size = g at *
  simp only [HM.out]
  go_loopw [11] (fun i wr => ∃ j : Nat, i = .int .i64 ((j : Int) + 1) ∧ j ≤ m ∧ Below W.heap.size W wr ∧ Box wr W.heap.size #[.string a, .string b] ∧
    ((j < m ∧ Box wr g #[.string a, .string (fst s (4 * (j : Int))), .bool true, .int .i64 1, .string s, .int .i64 (4 * (j : Int))]) ∨ (j = m ∧ Box wr g #[.string a, .string s, .bool false, .int .i64 1, .string ⟨#[]⟩, .int .i64 0]))) (fun i _ => m + 1 - (intOf i).toNat)
  case atStart => exact ⟨0, rfl, by omega, A1, B1, .inl ⟨by omega, by rw [show 4 * ((0 : Nat) : Int) = 0 from rfl, fst_none s (by omega)]; exact D1⟩⟩
  case round =>
    clear A1 B1 D1
    obtain ⟨j, rfl, hj, A1, B1, hst⟩ := hrel
    have hm := HM.out
    obtain ⟨b0, b1, bf, bl⟩ := B1.two
    rcases hst with ⟨hjm, D1⟩ | ⟨rfl, D1⟩
    · obtain ⟨c0, c1, c2, c3, c4, c5, cf, cl⟩ := D1.six
      have hx := nx_at (x := 4 * (j : Int)) (by omega) (by omega)
      by_cases hl : j + 1 < m
      · have e4 : 4 * (j : Int) + 4 < (s.size : Int) := by omega
        have HS := Lib.hid (show ∀ w, Calls Try.prog 7 #[.agg #[.string a, .string (fst s (4 * (j : Int))), .bool true, .int .i64 1, .string s, .int .i64 (4 * (j : Int))], .bool true] w fun x w' => x = .returned (.tuple #[.agg #[.string a, .string (fst s (4 * (j : Int) + 4)), .bool true, .int .i64 1, .string s, .int .i64 (4 * (j : Int) + 4)], .int .i64 0]) ∧ Below w.heap.size w w' from fun w => by
          have h := fl_step_goes a (fst s (4 * (j : Int))) 1 s (4 * (j : Int)) (by omega) w
          rw [hx] at h
          exact h)
        have HE := Lib.hid (show fst s (4 * (j : Int) + 4) = fst s (4 * ((j + 1 : Nat) : Int)) from congrArg _ (by omega))
        have hs : ∀ t w, Try.prog.underlying t = some .string → (Instr.slice t (.string s) none (some (.int .i64 (4 * ((j : Int) + 1)))) none).run Try.prog w = .ok (.string (fst s (4 * (j : Int) + 4))) w := fun t w ht =>
          (run_slice_string_h (ht := ht) (h0 := by omega) (h2 := by omega) ..).trans (by rw [show 4 * (j : Int) + 4 = 4 * ((j : Int) + 1) by omega]; rfl)
        have t1 : (j : Int) + 1 < (m : Int) := by omega
        have t2 := decide_eq_true t1
        have t3 : 4 * ((j : Int) + 1) < (s.size : Int) := by omega
        have t4 : ((j : Int) + 1 == (m : Int)) = false := by simp; omega
        obtain ⟨P, hP⟩ : ∃ P, fst s (4 * (j : Int) + 4) = P := ⟨_, rfl⟩
        obtain ⟨Q, hQ⟩ : ∃ Q, fst s (4 * (j : Int)) = Q := ⟨_, rfl⟩
        rw [hP] at HS HE hs
        rw [hQ] at HS D1 c1
        clear hP hQ hx
        go_wp2_with (fail)
        refine (HS.out _).mono ?_
        rintro e w3 ⟨rfl, hb⟩
        have A3 := below_call A1 hb
        have B3 := B1.below hb
        have D3 := D1.below hb
        clear hb A1 B1 D1 c0 c1 c2 c3 c4 c5 cf cl b0 b1 bf bl
        obtain ⟨c0, c1, c2, c3, c4, c5, cf, cl⟩ := D3.six
        go_wp2
        have B4 : Box ((((((w3.setCell ⟨g, 0, none⟩ (.string a)).setCell ⟨g, 1, none⟩ (.string P)).setCell ⟨g, 2, none⟩ (.bool true)).setCell ⟨g, 3, none⟩ (.int .i64 1)).setCell ⟨g, 4, none⟩ (.string s)).setCell ⟨g, 5, none⟩ (.int .i64 (4 * (j : Int) + 4))) W.heap.size #[.string a, .string b] := ((((((B3.far (p := ⟨g, 0, none⟩) (fun h => n1 h.symm) _).far (p := ⟨g, 1, none⟩) (fun h => n1 h.symm) _).far (p := ⟨g, 2, none⟩) (fun h => n1 h.symm) _).far (p := ⟨g, 3, none⟩) (fun h => n1 h.symm) _).far (p := ⟨g, 4, none⟩) (fun h => n1 h.symm) _).far (p := ⟨g, 5, none⟩) (fun h => n1 h.symm) _)
        have D4 := Box.six_set D3 (.string a) (.string P) (.bool true) (.int .i64 1) (.string s) (.int .i64 (4 * (j : Int) + 4))
        have A4 : Below W.heap.size W ((((((w3.setCell ⟨g, 0, none⟩ (.string a)).setCell ⟨g, 1, none⟩ (.string P)).setCell ⟨g, 2, none⟩ (.bool true)).setCell ⟨g, 3, none⟩ (.int .i64 1)).setCell ⟨g, 4, none⟩ (.string s)).setCell ⟨g, 5, none⟩ (.int .i64 (4 * (j : Int) + 4))) := by (repeat (first | (with_reducible exact Below.refl _ _) | (with_reducible assumption) | (with_reducible refine Near.up _ ?_) | (with_reducible refine below_alloc_on ?_ _) | (with_reducible refine below_set_on ?_ (by first | (simp; done) | (simp; omega) | omega) _)))
        generalize ((((((w3.setCell ⟨g, 0, none⟩ (.string a)).setCell ⟨g, 1, none⟩ (.string P)).setCell ⟨g, 2, none⟩ (.bool true)).setCell ⟨g, 3, none⟩ (.int .i64 1)).setCell ⟨g, 4, none⟩ (.string s)).setCell ⟨g, 5, none⟩ (.int .i64 (4 * (j : Int) + 4))) = w4 at *
        clear A3 B3 D3 c0 c1 c2 c3 c4 c5 cf cl
        obtain ⟨b0, b1, bf, bl⟩ := B4.two
        obtain ⟨c0, c1, c2, c3, c4, c5, cf, cl⟩ := D4.six
        refine wp_region_calm (by kernel_rfl) (by kernel_rfl) ?_
        repeat (go_big_quiet_step ((fail)))
        refine wpQuiet_nil ?_
        intro _ hw'
        obtain ⟨u, rfl⟩ := hw'
        go_wp2
        go_roundw
        case rel => exact ⟨j + 1, by go_num, by omega, u.up A4, B4.near u, .inl ⟨by omega, by rw [← HE.out, show 4 * ((j + 1 : Nat) : Int) = 4 * (j : Int) + 4 by omega]; exact D4.near u⟩⟩
        case measure => simp [intOf]; omega
      · have e4 : (s.size : Int) ≤ 4 * (j : Int) + 4 := by omega
        have HS := Lib.hid (show ∀ w, Calls Try.prog 7 #[.agg #[.string a, .string (fst s (4 * (j : Int))), .bool true, .int .i64 1, .string s, .int .i64 (4 * (j : Int))], .bool true] w fun x w' => x = .returned (.tuple #[.agg #[.string a, .string s, .bool false, .int .i64 1, .string ⟨#[]⟩, .int .i64 0], .int .i64 1]) ∧ Below w.heap.size w w' from fun w =>
          fl_step_done a (fst s (4 * (j : Int))) 1 s (4 * (j : Int)) (by omega) w)
        have t0 : (j : Int) + 1 ≤ (m : Int) := by omega
        have t1 : ¬ (j : Int) + 1 < (m : Int) := by omega
        have t2 := decide_eq_false t1
        have t3 : ¬ 4 * ((j : Int) + 1) < (s.size : Int) := by omega
        have t4 : ((j : Int) + 1 == (m : Int)) = true := by simp; omega
        have t5 : (if (s.size : Int) < 4 * ((j : Int) + 1) then (s.size : Int) else 4 * ((j : Int) + 1)) = (s.size : Int) := by split <;> omega
        obtain ⟨Q, hQ⟩ : ∃ Q, fst s (4 * (j : Int)) = Q := ⟨_, rfl⟩
        rw [hQ] at HS D1 c1
        clear hQ hx
        go_wp2_with (fail)
        refine (HS.out _).mono ?_
        rintro e w3 ⟨rfl, hb⟩
        have A3 := below_call A1 hb
        have B3 := B1.below hb
        have D3 := D1.below hb
        clear hb A1 B1 D1 c0 c1 c2 c3 c4 c5 cf cl b0 b1 bf bl
        obtain ⟨c0, c1, c2, c3, c4, c5, cf, cl⟩ := D3.six
        go_wp2
        have B4 : Box ((((((w3.setCell ⟨g, 0, none⟩ (.string a)).setCell ⟨g, 1, none⟩ (.string s)).setCell ⟨g, 2, none⟩ (.bool false)).setCell ⟨g, 3, none⟩ (.int .i64 1)).setCell ⟨g, 4, none⟩ (.string ⟨#[]⟩)).setCell ⟨g, 5, none⟩ (.int .i64 0)) W.heap.size #[.string a, .string b] := ((((((B3.far (p := ⟨g, 0, none⟩) (fun h => n1 h.symm) _).far (p := ⟨g, 1, none⟩) (fun h => n1 h.symm) _).far (p := ⟨g, 2, none⟩) (fun h => n1 h.symm) _).far (p := ⟨g, 3, none⟩) (fun h => n1 h.symm) _).far (p := ⟨g, 4, none⟩) (fun h => n1 h.symm) _).far (p := ⟨g, 5, none⟩) (fun h => n1 h.symm) _)
        have D4 := Box.six_set D3 (.string a) (.string s) (.bool false) (.int .i64 1) (.string ⟨#[]⟩) (.int .i64 0)
        have A4 : Below W.heap.size W ((((((w3.setCell ⟨g, 0, none⟩ (.string a)).setCell ⟨g, 1, none⟩ (.string s)).setCell ⟨g, 2, none⟩ (.bool false)).setCell ⟨g, 3, none⟩ (.int .i64 1)).setCell ⟨g, 4, none⟩ (.string ⟨#[]⟩)).setCell ⟨g, 5, none⟩ (.int .i64 0)) := by (repeat (first | (with_reducible exact Below.refl _ _) | (with_reducible assumption) | (with_reducible refine Near.up _ ?_) | (with_reducible refine below_alloc_on ?_ _) | (with_reducible refine below_set_on ?_ (by first | (simp; done) | (simp; omega) | omega) _)))
        generalize ((((((w3.setCell ⟨g, 0, none⟩ (.string a)).setCell ⟨g, 1, none⟩ (.string s)).setCell ⟨g, 2, none⟩ (.bool false)).setCell ⟨g, 3, none⟩ (.int .i64 1)).setCell ⟨g, 4, none⟩ (.string ⟨#[]⟩)).setCell ⟨g, 5, none⟩ (.int .i64 0)) = w4 at *
        clear A3 B3 D3 c0 c1 c2 c3 c4 c5 cf cl
        obtain ⟨b0, b1, bf, bl⟩ := B4.two
        obtain ⟨c0, c1, c2, c3, c4, c5, cf, cl⟩ := D4.six
        refine wp_region_calm (by kernel_rfl) (by kernel_rfl) ?_
        repeat (go_big_quiet_step ((fail)))
        refine wpQuiet_nil ?_
        intro _ hw'
        obtain ⟨u, rfl⟩ := hw'
        go_wp2
        go_roundw
        case rel => exact ⟨j + 1, by go_num, by omega, u.up A4, B4.near u, .inr ⟨by omega, D4.near u⟩⟩
        case measure => simp [intOf]; omega
    · obtain ⟨c0, c1, c2, c3, c4, c5, cf, cl⟩ := D1.six
      have t0 : ¬ (j : Int) + 1 ≤ (j : Int) := by omega
      have HI := Lib.hid (fun w => fl_step_idle a s 1 ⟨#[]⟩ 0 false w)
      have HC := Lib.hid (fun w => fl_cut_idle a s 1 ⟨#[]⟩ 0 ⟨#[110, 111]⟩ w)
      go_wp2_with (fail)
      refine (HI.out _).mono ?_
      rintro e w3 ⟨rfl, hb⟩
      have A3 := below_alloc_on (below_call A1 hb) (.cells #[.string a, .string s, .bool false, .int .i64 1, .string ⟨#[]⟩, .int .i64 0] 25)
      have D3 := (D1.below hb).alloc (.cells #[.string a, .string s, .bool false, .int .i64 1, .string ⟨#[]⟩, .int .i64 0] 25)
      have E3 := box_new w3 #[.string a, .string s, .bool false, .int .i64 1, .string ⟨#[]⟩, .int .i64 0] 25
      clear hb A1 B1 D1 c0 c1 c2 c3 c4 c5 cf cl b0 b1 bf bl
      go_wp2
      generalize w3.alloc (.cells #[.string a, .string s, .bool false, .int .i64 1, .string ⟨#[]⟩, .int .i64 0] 25) = w4 at *
      generalize w3.heap.size = g3 at *
      obtain ⟨c0, c1, c2, c3, c4, c5, cf, cl⟩ := D3.six
      obtain ⟨y0, y1, y2, y3, y4, y5, yf, yl⟩ := E3.six
      refine wp_region_calm (by kernel_rfl) (by kernel_rfl) ?_
      repeat (go_big_quiet_step ((first | ((go_at_call 8; exact calm_of _ (HC.out _))) | ((go_at_call 5; exact calm_of _ (law15_awake _))))))
      refine wpQuiet_nil ?_
      intro _ hw'
      obtain ⟨u, rfl⟩ := hw'
      go_wp2
      all_goals go_ret
      all_goals exact ⟨rfl, u.up A3⟩

theorem early (W : World) (a b : ByteArray) (v : Int) (s : ByteArray) (h : (s.size : Int) < 1 ∨ (¬ (s.size : Int) < 1 ∧ 64 < (s.size : Int)) ∨ (¬ (s.size : Int) < 1 ∧ ¬ 64 < (s.size : Int) ∧ 100 < (a.size : Int)) ∨ (¬ (s.size : Int) < 1 ∧ ¬ 64 < (s.size : Int) ∧ ¬ 100 < (a.size : Int) ∧ 100 < (b.size : Int))) :
    Calls Try.prog 3 #[.agg #[.string a, .string b], .int .u8 v, .string s] W fun e W' => e = .returned (.bool true) ∧ Below W.heap.size W W' := by
  have A0 : Below W.heap.size W W := Below.refl _ _
  rcases h with h1 | ⟨h1, h2⟩ | ⟨h1, h2, h3⟩ | ⟨h1, h2, h3, h4⟩
  · have d3 := decide_eq_true h1
    go_enter Try.func3, Try.ntmps3
    go_wp2_with (fail)
    refine (law15_awake _).mono ?_
    rintro e w1 ⟨rfl, hb⟩
    go_wp2
    all_goals go_ret
    all_goals exact ⟨rfl, below_call (below_alloc_on A0 _) hb⟩
  · have d3 := decide_eq_false h1
    have d2 := decide_eq_true h2
    go_enter Try.func3, Try.ntmps3
    go_wp2_with (fail)
    refine (law15_awake _).mono ?_
    rintro e w1 ⟨rfl, hb⟩
    go_wp2
    all_goals go_ret
    all_goals exact ⟨rfl, below_call (below_alloc_on A0 _) hb⟩
  · have d3 := decide_eq_false h1
    have d2 := decide_eq_false h2
    have d0 := decide_eq_true h3
    go_enter Try.func3, Try.ntmps3
    go_wp2_with (fail)
    refine (law15_awake _).mono ?_
    rintro e w1 ⟨rfl, hb⟩
    go_wp2
    all_goals go_ret
    all_goals exact ⟨rfl, below_call (below_alloc_on A0 _) hb⟩
  · have d3 := decide_eq_false h1
    have d2 := decide_eq_false h2
    have d0 := decide_eq_false h3
    have d1 := decide_eq_true h4
    go_enter Try.func3, Try.ntmps3
    go_wp2_with (fail)
    refine (law15_awake _).mono ?_
    rintro e w1 ⟨rfl, hb⟩
    go_wp2
    all_goals go_ret
    all_goals exact ⟨rfl, below_call (below_alloc_on A0 _) hb⟩

theorem walk (W : World) (a : ByteArray) (wa : a.size ≤ maxLen) (b : ByteArray) (wb : b.size ≤ maxLen) (v : Int) (wv : (Lit.int .u8 v).wf = true) (s : ByteArray) (ws : s.size ≤ maxLen) :
    Calls Try.prog 3 #[.agg #[.string a, .string b], .int .u8 v, .string s] W fun e W' => e = .returned (.bool true) ∧ Below W.heap.size W W' := by
  simp only [Lit.wf, IntKind.min, IntKind.max, IntKind.signed, IntKind.bits, Bool.and_eq_true] at wv
  simp at wv
  clear wa wb ws
  have hm : v.tmod 2 = v % 2 := Int.tmod_eq_emod_of_nonneg (by omega)
  by_cases h1 : (s.size : Int) < 1
  · exact early W a b v s (.inl h1)
  by_cases h2 : 64 < (s.size : Int)
  · exact early W a b v s (.inr (.inl ⟨h1, h2⟩))
  by_cases h3 : 100 < (a.size : Int)
  · exact early W a b v s (.inr (.inr (.inl ⟨h1, h2, h3⟩)))
  by_cases h4 : 100 < (b.size : Int)
  · exact early W a b v s (.inr (.inr (.inr ⟨h1, h2, h3, h4⟩)))
  rcases (by omega : v % 2 = 0 ∨ v % 2 = 1) with h | h
  · exact walk0 W a b v s (by omega) (by omega) (by rw [hm, h]; exact IntWalk.wrap64_in _ ⟨by omega, by omega⟩) (by omega) (by omega)
  · exact walk1 W a b v s (by omega) (by omega) (by rw [hm, h]; exact IntWalk.wrap64_in _ ⟨by omega, by omega⟩) (by omega) (by omega)

theorem lifted (os : Os) (started : os.Started) (H : Type) (enc : TypeId × Value → H) :
    ReturnsInHanded {} Try.checked os 3 .any (Rows.flashWritesSpec.pre6 enc Try.prog Try.f3 Rows.flashWritesRow.domain false) (Rows.flashWritesSpec.post enc Try.prog Try.f3 false true false false) := by
  refine law_lift started (by kernel_rfl) Try.func3 rfl rfl ?_ (by kernel_rfl)
    (ChangeSpec.witness6 (enc := enc) (C := Try.checked) false ⟨#[], #[.agg #[.string ⟨#[]⟩, .string ⟨#[]⟩], .int .u8 0, .string ⟨#[]⟩], []⟩ 8 (by kernel_rfl) (by kernel_rfl) (by kernel_rfl) (by kernel_rfl)) ?_
  · intro ds hl
    match ds, hl with
    | [_, _, _], _ => exact ⟨rfl, rfl, rfl⟩
  · intro W base args ds p hval hA hlt hwt
    rw [Try.params3] at hA hval hwt
    obtain ⟨v0, vs0, d0, ds0, p0, q0, hargs, rfl, rfl, h0, r0⟩ := trodAll_cons hA
    obtain ⟨v1, vs1, d1, ds1, p1, q1, rfl, rfl, rfl, h1, r1⟩ := trodAll_cons r0
    obtain ⟨v2, vs2, d2, ds2, p2, q2, rfl, rfl, rfl, h2, r2⟩ := trodAll_cons r1
    obtain ⟨rfl, rfl, rfl⟩ := trodAll_nil r2
    obtain rfl : args = #[v0, v1, v2] := by cases args; simp_all
    obtain ⟨cs0, rfl, l0, k0⟩ := open_leaves 5 [.string, .string] (by kernel_rfl) (by kernel_rfl) (hval 0 22 v0 rfl rfl) h0
    match cs0, l0, k0 with
    | [y0_0, y0_1], _, k0 =>
    obtain ⟨x0_0, e0_0, w0_0⟩ : leafIs (.string) y0_0 := k0 0 _ rfl
    subst e0_0
    obtain ⟨x0_1, e0_1, w0_1⟩ : leafIs (.string) y0_1 := k0 1 _ rfl
    subst e0_1
    obtain ⟨a1, rfl, rfl, rfl, w1⟩ := open_int Try.underlying5 (hval 1 5 v1 rfl rfl) h1
    obtain ⟨a2, rfl, rfl, rfl, w2⟩ := Go.ChangeMaps.open_string Try.underlying9 (hval 2 9 v2 rfl rfl) h2
    exact walk W x0_0 w0_0 x0_1 w0_1 a1 w1 a2 w2

theorem over : Rows.flashWritesRow.holds Try.pinned (OpenSpec.ofChange Rows.flashWritesSpec) :=
  OpenClaim.holds_of_wide 3 Try.f3 rfl rfl rfl rfl rfl rfl rfl ⟨rfl, rfl, rfl, rfl, rfl⟩ rfl rfl rfl rfl rfl (by kernel_rfl) Try.func3 (by kernel_rfl)
    (of_decide_eq_true (by kernel_rfl)) (by unfold Func.isWrapper; first | (rw [if_pos (by decide +kernel)]; kernel_rfl) | (rw [if_neg (by decide +kernel)]; exact ⟨rfl, rfl⟩))
    (fun os started H enc _ => lifted os started H enc)

theorem proved : Rows.FlashWritesSaid := over
#print axioms proved
end Go.Proofs.Ytliaeiibfhlfeaa.flashWrites
