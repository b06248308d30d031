/- Contracts of the document's formula and meaning: Right, Ask, atom; what a single atom means. -/
import Derived.Test.YtmemhlhjkpijpaaRef58A
import Derived.Test.YtmemhlhjkpijpaaMonE
namespace Go.Proofs.Ytmemhlhjkpijpaa
open Go.RowKit
set_option linter.unusedVariables false
set_option linter.unusedSimpArgs false
set_option maxRecDepth 100000
attribute [local go_sem] cell_set_ite Near.cell Near.frozen

set_option maxHeartbeats 4000000 in
theorem r6_right (A : Option Addr) (n c : Nat) (ts : Nat → Tm) (w : World) (h : Terms w A n ts) : Calls Try.prog 19 #[.slice A n c] w fun e w' => e = .returned (.bool (rtB ts n)) ∧ Below w.heap.size w w' := by
  have HI := Lib.hid h
  have A0 : Below w.heap.size w w := Below.refl _ _
  clear h
  by_cases hn : 40 < n
  · have t0 : decide (40 < (n : Int)) = true := decide_eq_true (by omega)
    have hr : rtB ts n = false := by unfold rtB; rw [decide_eq_false (by omega)]; rfl
    rw [hr]
    clear hn hr
    go_enter Try.func19, Try.ntmps19
    go_wp2
    all_goals go_ret
    all_goals exact ⟨rfl, A0⟩
  · have t0 : decide (40 < (n : Int)) = false := decide_eq_false (by omega)
    go_enter Try.func19, Try.ntmps19
    go_wp2
    go_loopg [3, 10] n (fun gk x i wr => ∃ k : Nat, k ≤ n ∧ gk = n - k ∧ i = .int .i64 k ∧ x = .int .i64 (rdN ts k) ∧ okB ts k = true ∧ Below w.heap.size w wr)
    case atStart => exact ⟨0, by omega, rfl, rfl, rfl, rfl, A0⟩
    case round =>
      clear A0
      obtain ⟨k, hk, rfl, rfl, rfl, hok, A1⟩ := hrel
      by_cases hlt : k < n
      · obtain ⟨b, off, rfl, hbs, hcell⟩ := HI.out.2 (by omega)
        have hbd := HI.out.1 k hlt
        have HCC := Lib.hid (fun W (h : Below w.heap.size w W) => (⟨(h.cell (p := ⟨b, off + k * 3, none⟩) hbs).trans (hcell k hlt).1, (h.cell (p := ⟨b, off + k * 3 + 1, none⟩) hbs).trans (hcell k hlt).2.1, (h.cell (p := ⟨b, off + k * 3 + 2, none⟩) hbs).trans (hcell k hlt).2.2⟩ : W.cell? ⟨b, off + k * 3, none⟩ = some (.int .i64 (ts k).op) ∧ W.cell? ⟨b, off + k * 3 + 1, none⟩ = some (.int .i64 (ts k).a) ∧ W.cell? ⟨b, off + k * 3 + 2, none⟩ = some (.int .i64 (ts k).b)))
        have hS : okB ts (k + 1) = (myB (ts k) && decide (ndN (ts k).op ≤ rdN ts k)) := by
          show (okB ts k && (myB (ts k) && decide (ndN (ts k).op ≤ rdN ts k))) = _
          rw [hok, Bool.true_and]
        have HNX := Lib.hid (show rdN ts (k + 1) = rdN ts k + 1 - ndN (ts k).op from rfl)
        have hrl := rdN_le ts k
        have hnl := nd_le (ts k).op
        have hn2 : myB (ts k) = true → n2V (ts k).op = (ndN (ts k).op : Int) := n2_of
        have H1 := Lib.hid (fun w => r6_term (ts k).op (ts k).a (ts k).b hbd w)
        have H2 := Lib.hid (fun w => r6_needs (ts k).op (ts k).a (ts k).b w)
        rw [show myB ⟨(ts k).op, (ts k).a, (ts k).b⟩ = myB (ts k) from rfl] at H1
        have HNO := Lib.hid (fun h => rt_no (ts := ts) (k := k + 1) (n := n) hlt h)
        clear hcell hbd hok
        generalize (ts k).op = op at *
        generalize (ts k).a = a at *
        generalize (ts k).b = bb at *
        generalize ndN op = nd at *
        generalize rdN ts k = rd at *
        generalize myB (ts k) = my at *
        generalize n2V op = nv at *
        obtain ⟨c0, c1, c2⟩ := HCC.out _ A1
        cases my
        · have hr := Lib.hid (HNO.out (by rw [hS]; rfl))
          clear hS HNO HNX
          go_wp2_with (fail)
          refine (H1.out _).mono ?_
          rintro e w3 ⟨rfl, hb⟩
          have A3 := below_call A1 hb
          clear hb A1 c0 c1 c2
          go_wp2
          all_goals go_ret
          all_goals exact ⟨rb_ hr.out.symm, A3⟩
        · obtain rfl : nv = (nd : Int) := hn2 rfl
          go_wp2_with (fail)
          refine (H1.out _).mono ?_
          rintro e w3 ⟨rfl, hb⟩
          have A3 := below_call A1 hb
          clear hb A1 c0 c1 c2 hn2
          obtain ⟨c0, c1, c2⟩ := HCC.out _ A3
          go_wp2_with (fail)
          refine (H2.out _).mono ?_
          rintro e w4 ⟨rfl, hb⟩
          have A4 := below_call A3 hb
          clear hb A3 c0 c1 c2
          by_cases hd : nd ≤ rd
          · have t3 : decide ((rd : Int) < (nd : Int)) = false := decide_eq_false (by omega)
            have w1 : IntKind.i64.wrap (1 - (nd : Int)) = 1 - (nd : Int) := by rw [IntKind.wrap_i64]; omega
            have w2 : IntKind.i64.wrap ((rd : Int) + (1 - (nd : Int))) = (rd : Int) + (1 - (nd : Int)) := by rw [IntKind.wrap_i64]; omega
            have hok2 := Lib.hid (show okB ts (k + 1) = true by rw [hS, decide_eq_true hd]; rfl)
            clear hS HNO
            obtain ⟨c0, c1, c2⟩ := HCC.out _ A4
            go_wp2_with (fail)
            refine (H2.out _).mono ?_
            rintro e w5 ⟨rfl, hb⟩
            have A5 := below_call A4 hb
            clear hb A4 c0 c1 c2
            go_wp2
            go_roundg (n - (k + 1))
            case measure => omega
            case rel => exact ⟨k + 1, by omega, by omega, by go_num, by rw [HNX.out]; congr 1; omega, hok2.out, A5⟩
          · have t3 : decide ((rd : Int) < (nd : Int)) = true := decide_eq_true (by omega)
            have hr := Lib.hid (HNO.out (by rw [hS, decide_eq_false hd]; rfl))
            clear hS HNO HNX
            go_wp2
            all_goals go_ret
            all_goals exact ⟨rb_ hr.out.symm, A4⟩
      · obtain rfl : k = n := by omega
        have hr : rtB ts k = decide (rdN ts k = 1) := by unfold rtB; rw [hok, decide_eq_true (by omega)]; rfl
        have hrl := rdN_le ts k
        generalize rdN ts k = rd at *
        by_cases h1 : rd = 1
        · subst h1
          have HR := Lib.hid hr
          clear hr
          go_wp2
          all_goals go_ret
          all_goals exact ⟨rb_ HR.out.symm, A1⟩
        · have t1 : ((rd : Int) == 1) = false := by simp; omega
          rw [decide_eq_false h1] at hr
          have HR := Lib.hid hr
          clear hr h1
          go_wp2
          all_goals go_ret
          all_goals exact ⟨rb_ HR.out.symm, A1⟩

set_option maxHeartbeats 8000000 in
theorem r7_ask (o : Ou) (what : Int) (w : World) : Calls Try.prog 10 #[.agg o.cells, .int .i64 what] w fun e w' => e = .returned (.int .i64 (askV o what)) ∧ Below w.heap.size w w' := by
  have hf : ∀ k : Int, what ≠ k → (what == k) = false := fun k h => by simpa using h
  have A0 : Below w.heap.size w w := Below.refl _ _
  obtain ⟨x0, x1, x2, x3, x4, x5, x6, x7, x8, d, fr⟩ := o
  unfold Ou.cells
  dsimp only
  have ways : what = 1 ∨ what = 2 ∨ what = 3 ∨ what = 4 ∨ what = 5 ∨ what = 6 ∨ what = 7 ∨ what = 8 ∨ what = 10 ∨ what = 9 ∨ (what ≠ 1 ∧ what ≠ 2 ∧ what ≠ 3 ∧ what ≠ 4 ∧ what ≠ 5 ∧ what ≠ 6 ∧ what ≠ 7 ∧ what ≠ 8 ∧ what ≠ 9 ∧ what ≠ 10) := by omega
  rcases ways with rfl | rfl | rfl | rfl | rfl | rfl | rfl | rfl | rfl | rfl | ⟨h1, h2, h3, h4, h5, h6, h7, h8, h9, h10⟩
  case inr.inr.inr.inr.inr.inr.inr.inr.inr.inl =>
    clear hf
    cases d
    all_goals
      go_enter Try.func10, Try.ntmps10
      go_wp2
      all_goals go_ret
      all_goals exact ⟨rfl, by (repeat (first | (with_reducible exact Below.refl _ _) | (with_reducible assumption) | (with_reducible refine Near.up _ ?_) | (with_reducible refine Below.drew ?_) | (with_reducible refine below_alloc_on ?_ _) | (with_reducible refine below_set_on ?_ (by first | (simp; done) | (simp; omega) | omega) _)))⟩
  case inr.inr.inr.inr.inr.inr.inr.inr.inr.inr =>
    have hv : askV ⟨x0, x1, x2, x3, x4, x5, x6, x7, x8, d, fr⟩ what = 0 := by unfold askV; rw [if_neg h1, if_neg h2, if_neg h3, if_neg h4, if_neg h5, if_neg h6, if_neg h7, if_neg h8, if_neg h10, if_neg h9]
    have z1 := hf 1 h1
    have z2 := hf 2 h2
    have z3 := hf 3 h3
    have z4 := hf 4 h4
    have z5 := hf 5 h5
    have z6 := hf 6 h6
    have z7 := hf 7 h7
    have z8 := hf 8 h8
    have z9 := hf 9 h9
    have z10 := hf 10 h10
    rw [hv]
    clear hv hf h1 h2 h3 h4 h5 h6 h7 h8 h9 h10
    go_enter Try.func10, Try.ntmps10
    go_wp2
    all_goals go_ret
    all_goals exact ⟨rfl, by (repeat (first | (with_reducible exact Below.refl _ _) | (with_reducible assumption) | (with_reducible refine Near.up _ ?_) | (with_reducible refine Below.drew ?_) | (with_reducible refine below_alloc_on ?_ _) | (with_reducible refine below_set_on ?_ (by first | (simp; done) | (simp; omega) | omega) _)))⟩
  all_goals
    clear hf
    go_enter Try.func10, Try.ntmps10
    go_wp2
    all_goals go_ret
    all_goals exact ⟨rfl, by (repeat (first | (with_reducible exact Below.refl _ _) | (with_reducible assumption) | (with_reducible refine Near.up _ ?_) | (with_reducible refine Below.drew ?_) | (with_reducible refine below_alloc_on ?_ _) | (with_reducible refine below_set_on ?_ (by first | (simp; done) | (simp; omega) | omega) _)))⟩
set_option maxHeartbeats 4000000 in
theorem r7_atom (a b : Int) (o : Ou) (w : World) : Calls Try.prog 59 #[.agg #[.int .i64 2, .int .i64 a, .int .i64 b], .agg o.cells] w fun e w' => e = .returned (.bool (alB ⟨2, a, b⟩ o)) ∧ Below w.heap.size w w' := by
  have A0 : Below w.heap.size w w := Below.refl _ _
  have HA := Lib.hid (fun w => r7_ask o a w)
  by_cases h2 : a = 11
  · subst h2
    have hv : alB ⟨2, 11, b⟩ o = !(bits .and .i64 o.latch b == 0) := by unfold alB; rw [if_neg (by dsimp only; decide), if_pos rfl]
    rw [hv]
    unfold Ou.cells
    clear HA hv
    cases hz : bits .and .i64 o.latch b == 0
    · have hz0 : ¬ bits .and .i64 o.latch b = 0 := by simpa using hz
      have hz1 : (bits .and .i64 o.latch b != 0) = true := by simpa using hz0
      go_enter Try.func59, Try.ntmps59
      go_wp2
      all_goals go_ret
      all_goals exact ⟨rfl, by (repeat (first | (with_reducible exact Below.refl _ _) | (with_reducible assumption) | (with_reducible refine Near.up _ ?_) | (with_reducible refine Below.drew ?_) | (with_reducible refine below_alloc_on ?_ _) | (with_reducible refine below_set_on ?_ (by first | (simp; done) | (simp; omega) | omega) _)))⟩
    · have hz0 : bits .and .i64 o.latch b = 0 := by simpa using hz
      have hz1 : (bits .and .i64 o.latch b != 0) = false := by simpa using hz0
      go_enter Try.func59, Try.ntmps59
      go_wp2
      all_goals go_ret
      all_goals exact ⟨rfl, by (repeat (first | (with_reducible exact Below.refl _ _) | (with_reducible assumption) | (with_reducible refine Near.up _ ?_) | (with_reducible refine Below.drew ?_) | (with_reducible refine below_alloc_on ?_ _) | (with_reducible refine below_set_on ?_ (by first | (simp; done) | (simp; omega) | omega) _)))⟩
  · have t2 : (a == 11) = false := by simpa using h2
    have hv : alB ⟨2, a, b⟩ o = decide (b ≤ askV o a) := by unfold alB; rw [if_neg (by dsimp only; decide), if_neg h2]
    rw [hv]
    generalize askV o a = v at *
    unfold Ou.cells at HA ⊢
    clear hv h2
    go_enter Try.func59, Try.ntmps59
    go_wp2
    have A2 : Below w.heap.size w ((w.alloc (.cells #[.int .i64 2, .int .i64 a, .int .i64 b] 36)).alloc (.cells #[.int .i64 o.tick, .int .i64 o.mode, .int .i64 o.latch, .int .i64 o.notes, .int .i64 o.level, .int .i64 o.buzzer, .int .i64 o.opn, .int .i64 o.pos, .int .i64 o.volume, .bool o.drop, .string o.frame] 29)) := by (repeat (first | (with_reducible exact Below.refl _ _) | (with_reducible assumption) | (with_reducible refine Near.up _ ?_) | (with_reducible refine Below.drew ?_) | (with_reducible refine below_alloc_on ?_ _) | (with_reducible refine below_set_on ?_ (by first | (simp; done) | (simp; omega) | omega) _)))
    refine wp_region_calm (by kernel_rfl) (by kernel_rfl) ?_
    repeat (go_big_quiet_step (((go_at_call 10; exact calm_of _ (HA.out _)))))
    refine wpQuiet_nil ?_
    intro _ hw'
    obtain ⟨u, rfl⟩ := hw'
    go_wp2
    all_goals go_ret
    all_goals exact ⟨rfl, below_call A2 u.below⟩
end Go.Proofs.Ytmemhlhjkpijpaa
