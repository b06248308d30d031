/- FlashSays holds of every flash, every slot and every text. No condition. -/
import Derived.Test.YtkeolailcipegaaLaw15
namespace Go.Proofs.Ytkeolailcipegaa.flashSays
open Go.ChangeShapes Go.WideShapes Go.ChangeAt Go.RowKit
set_option linter.unusedVariables false

theorem eq_slots (w : World) (d : Nat) (x0 x1 y0 y1 : ByteArray) : (Op.equalIn (d + 2) 22 (.agg #[.string x0, .string x1]) (.agg #[.string y0, .string y1])).run Try.prog w = .ok (x0.toList == y0.toList && x1.toList == y1.toList) w := by
  obtain ⟨i, hi⟩ : ∃ i, Try.prog.info? 9 = some i := ⟨_, rfl⟩
  rw [run_equalIn_array (P := Try.prog) w (d + 1) _ _ (n := 2) (e := 9) (by kernel_rfl) hi, show List.range 2 = [0, 1] from rfl, show Try.prog.cellsOf 9 = 1 from by kernel_rfl]
  simp [Op.eqItems, go_sem]
  by_cases h : x0.toList = y0.toList <;> by_cases g : x1.toList = y1.toList <;> simp [h, g]
attribute [local go_sem] cell_set_ite Near.cell Near.frozen eq_slots

set_option maxRecDepth 100000 in
set_option maxHeartbeats 4000000 in
theorem core (a b : ByteArray) (q : Bool) (k : Int) (c : ByteArray) (n i : Int) (s : ByteArray) (W : World) (l0 : (a.size : Int) ≤ 200) (l1 : (b.size : Int) ≤ 200) (l2 : (c.size : Int) ≤ 200) (l3 : (s.size : Int) ≤ 200)
    (A0 A1 : ByteArray) (A2 : Bool) (A3 : Int) (A4 : ByteArray) (A5 : Int) (E : Int) (G0 G1 : ByteArray) (G2 : Bool) (G3 : Int) (G4 : ByteArray) (G5 : Int) (X : Int) (C0 C1 : ByteArray) (C2 : Bool) (C3 : Int) (C4 : ByteArray) (C5 : Int)
    (h1 : ∀ w, Calls Try.prog 7 #[.agg #[.string a, .string b, .bool q, .int .i64 k, .string c, .int .i64 n], .int .i64 i, .string s] w fun x w' => x = .returned (.tuple #[.agg #[.string A0, .string A1, .bool A2, .int .i64 A3, .string A4, .int .i64 A5], .int .i64 E]) ∧ Below w.heap.size w w')
    (h2 : ∀ w, Calls Try.prog 8 #[.agg #[.string a, .string b, .bool q, .int .i64 k, .string c, .int .i64 n], .int .i64 i, .string s] w fun x w' => x = .returned (.tuple #[.agg #[.string A0, .string A1, .bool A2, .int .i64 A3, .string A4, .int .i64 A5], .int .i64 E]) ∧ Below w.heap.size w w')
    (h3 : ∀ w, Calls Try.prog 9 #[.agg #[.string a, .string b, .bool q, .int .i64 k, .string c, .int .i64 n], .bool (i != 3)] w fun x w' => x = .returned (.tuple #[.agg #[.string G0, .string G1, .bool G2, .int .i64 G3, .string G4, .int .i64 G5], .int .i64 X]) ∧ Below w.heap.size w w')
    (h4 : ∀ w, Calls Try.prog 10 #[.agg #[.string a, .string b, .bool q, .int .i64 k, .string c, .int .i64 n], .bool (i != 3)] w fun x w' => x = .returned (.tuple #[.agg #[.string G0, .string G1, .bool G2, .int .i64 G3, .string G4, .int .i64 G5], .int .i64 X]) ∧ Below w.heap.size w w')
    (h5 : ∀ w, Calls Try.prog 11 #[.agg #[.string a, .string b, .bool q, .int .i64 k, .string c, .int .i64 n], .string s] w fun x w' => x = .returned (.agg #[.string C0, .string C1, .bool C2, .int .i64 C3, .string C4, .int .i64 C5]) ∧ Below w.heap.size w w')
    (h6 : ∀ w, Calls Try.prog 12 #[.agg #[.string a, .string b, .bool q, .int .i64 k, .string c, .int .i64 n], .string s] w fun x w' => x = .returned (.agg #[.string C0, .string C1, .bool C2, .int .i64 C3, .string C4, .int .i64 C5]) ∧ Below w.heap.size w w') :
    Calls Try.prog 3 #[.agg #[.string a, .string b, .bool q, .int .i64 k, .string c, .int .i64 n], .int .i64 i, .string s] W fun e W' => e = .returned (.bool true) ∧ Below W.heap.size W W' := by
  have d0 := decide_eq_false (p := 200 < (a.size : Int)) (by omega)
  have d1 := decide_eq_false (p := 200 < (b.size : Int)) (by omega)
  have d2 := decide_eq_false (p := 200 < (c.size : Int)) (by omega)
  have d3 := decide_eq_false (p := 200 < (s.size : Int)) (by omega)
  have H1 := Lib.hid h1
  have H2 := Lib.hid h2
  have H3 := Lib.hid h3
  have H4 := Lib.hid h4
  have H5 := Lib.hid h5
  have H6 := Lib.hid h6
  clear h1 h2 h3 h4 h5 h6
  have A0 : Below W.heap.size W W := Below.refl _ _
  go_enter Try.func3, Try.ntmps3
  go_wp2_with (fail)
  refine (H1.out _).mono ?_
  rintro e w1 ⟨rfl, hb⟩
  have L1 := below_call (below_alloc_on A0 _) hb
  have B1 := (box_new W _ _).below hb
  clear hb A0
  obtain ⟨b0, b1, b2, b3, b4, b5, bf, bl⟩ := B1.six
  go_wp2_with (fail)
  refine (H2.out _).mono ?_
  rintro e w2 ⟨rfl, hb⟩
  have L2 := below_call (below_alloc_on L1 _) hb
  have B2 := (B1.alloc _).below hb
  have D2 := (box_new w1 _ _).below hb
  have n1 : ¬ W.heap.size = w1.heap.size := by have := B1.1; omega
  generalize w1.heap.size = g1 at *
  clear hb L1 B1 b0 b1 b2 b3 b4 b5 bf bl
  obtain ⟨b0, b1, b2, b3, b4, b5, bf, bl⟩ := B2.six
  go_wp2_with (fail)
  refine (H3.out _).mono ?_
  rintro e w3 ⟨rfl, hb⟩
  have L3 := below_call (below_alloc_on L2 _) hb
  have B3 := (B2.alloc _).below hb
  have D3 := (D2.alloc _).below hb
  have F3 := (box_new w2 _ _).below hb
  have n2 : ¬ W.heap.size = w2.heap.size := by have := B2.1; omega
  have n3 : ¬ g1 = w2.heap.size := by have := D2.1; omega
  generalize w2.heap.size = g2 at *
  clear hb L2 B2 D2 b0 b1 b2 b3 b4 b5 bf bl
  obtain ⟨b0, b1, b2, b3, b4, b5, bf, bl⟩ := B3.six
  go_wp2_with (fail)
  refine (H4.out _).mono ?_
  rintro e w4 ⟨rfl, hb⟩
  have L4 := below_call (below_alloc_on L3 _) hb
  have B4 := (B3.alloc _).below hb
  have D4 := (D3.alloc _).below hb
  have F4 := (F3.alloc _).below hb
  have J4 := (box_new w3 _ _).below hb
  have n4 : ¬ W.heap.size = w3.heap.size := by have := B3.1; omega
  have n5 : ¬ g1 = w3.heap.size := by have := D3.1; omega
  have n6 : ¬ g2 = w3.heap.size := by have := F3.1; omega
  generalize w3.heap.size = g3 at *
  clear hb L3 B3 D3 F3 b0 b1 b2 b3 b4 b5 bf bl
  have L5 := below_alloc_on L4 (.cells #[.string G0, .string G1, .bool G2, .int .i64 G3, .string G4, .int .i64 G5] 24)
  have B5 := B4.alloc (.cells #[.string G0, .string G1, .bool G2, .int .i64 G3, .string G4, .int .i64 G5] 24)
  have D5 := D4.alloc (.cells #[.string G0, .string G1, .bool G2, .int .i64 G3, .string G4, .int .i64 G5] 24)
  have F5 := F4.alloc (.cells #[.string G0, .string G1, .bool G2, .int .i64 G3, .string G4, .int .i64 G5] 24)
  have J5 := J4.alloc (.cells #[.string G0, .string G1, .bool G2, .int .i64 G3, .string G4, .int .i64 G5] 24)
  have K5 := box_new w4 #[.string G0, .string G1, .bool G2, .int .i64 G3, .string G4, .int .i64 G5] 24
  go_wp2
  generalize w4.alloc (.cells #[.string G0, .string G1, .bool G2, .int .i64 G3, .string G4, .int .i64 G5] 24) = w5 at *
  generalize w4.heap.size = g4 at *
  clear L4 B4 D4 F4 J4
  obtain ⟨b0, b1, b2, b3, b4, b5, bf, bl⟩ := B5.six
  obtain ⟨x0, x1, x2, x3, x4, x5, xf, xl⟩ := D5.six
  obtain ⟨y0, y1, y2, y3, y4, y5, yf, yl⟩ := F5.six
  obtain ⟨z0, z1, z2, z3, z4, z5, zf, zl⟩ := J5.six
  obtain ⟨t0, t1, t2, t3, t4, t5, tf, tl⟩ := K5.six
  refine wp_region_calm (by kernel_rfl) (by kernel_rfl) ?_
  repeat (go_big_quiet_step ((first | ((go_at_call 11; exact calm_of _ (H5.out _))) | ((go_at_call 12; exact calm_of _ (H6.out _))) | ((go_at_call 6; exact calm_of _ (law15_awake _))))))
  refine wpQuiet_nil ?_
  intro _ hw'
  obtain ⟨u, rfl⟩ := hw'
  go_wp2
  all_goals go_ret
  all_goals exact ⟨rfl, u.up L5⟩

theorem tooMuch (a b : ByteArray) (q : Bool) (k : Int) (c : ByteArray) (n i : Int) (s : ByteArray) (W : World) (l : 200 < (a.size : Int) ∨ 200 < (b.size : Int) ∨ 200 < (c.size : Int) ∨ 200 < (s.size : Int)) :
    Calls Try.prog 3 #[.agg #[.string a, .string b, .bool q, .int .i64 k, .string c, .int .i64 n], .int .i64 i, .string s] W fun e W' => e = .returned (.bool true) ∧ Below W.heap.size W W' := by
  have A0 : Below W.heap.size W W := Below.refl _ _
  rcases (show 200 < (a.size : Int) ∨ (¬ 200 < (a.size : Int) ∧ 200 < (b.size : Int)) ∨ (¬ 200 < (a.size : Int) ∧ ¬ 200 < (b.size : Int) ∧ 200 < (c.size : Int)) ∨ (¬ 200 < (a.size : Int) ∧ ¬ 200 < (b.size : Int) ∧ ¬ 200 < (c.size : Int) ∧ 200 < (s.size : Int)) by omega) with l0 | ⟨l0, l1⟩ | ⟨l0, l1, l2⟩ | ⟨l0, l1, l2, l3⟩
  · have d0 := decide_eq_true l0
    clear l
    go_enter Try.func3, Try.ntmps3
    go_wp2_with (fail)
    refine (law15_awake _).mono ?_
    rintro e w1 ⟨rfl, hb⟩
    have A1 := below_call (below_alloc_on A0 _) hb
    go_wp2
    all_goals go_ret
    all_goals exact ⟨rfl, A1⟩
  · have d0 := decide_eq_false l0
    have d1 := decide_eq_true l1
    clear l
    go_enter Try.func3, Try.ntmps3
    go_wp2_with (fail)
    refine (law15_awake _).mono ?_
    rintro e w1 ⟨rfl, hb⟩
    have A1 := below_call (below_alloc_on A0 _) hb
    go_wp2
    all_goals go_ret
    all_goals exact ⟨rfl, A1⟩
  · have d0 := decide_eq_false l0
    have d1 := decide_eq_false l1
    have d2 := decide_eq_true l2
    clear l
    go_enter Try.func3, Try.ntmps3
    go_wp2_with (fail)
    refine (law15_awake _).mono ?_
    rintro e w1 ⟨rfl, hb⟩
    have A1 := below_call (below_alloc_on A0 _) hb
    go_wp2
    all_goals go_ret
    all_goals exact ⟨rfl, A1⟩
  · have d0 := decide_eq_false l0
    have d1 := decide_eq_false l1
    have d2 := decide_eq_false l2
    have d3 := decide_eq_true l3
    clear l
    go_enter Try.func3, Try.ntmps3
    go_wp2_with (fail)
    refine (law15_awake _).mono ?_
    rintro e w1 ⟨rfl, hb⟩
    have A1 := below_call (below_alloc_on A0 _) hb
    go_wp2
    all_goals go_ret
    all_goals exact ⟨rfl, A1⟩

set_option maxHeartbeats 1000000 in
theorem walk (W : World) (a : ByteArray) (wa : a.size ≤ maxLen) (b : ByteArray) (wb : b.size ≤ maxLen) (q : Bool) (k : Int) (wk : (Lit.int .i64 k).wf = true) (c : ByteArray) (wc : c.size ≤ maxLen) (n : Int) (wn : (Lit.int .i64 n).wf = true)
    (i : Int) (wi : (Lit.int .i64 i).wf = true) (s : ByteArray) (ws : s.size ≤ maxLen) :
    Calls Try.prog 3 #[.agg #[.string a, .string b, .bool q, .int .i64 k, .string c, .int .i64 n], .int .i64 i, .string s] W fun e W' => e = .returned (.bool true) ∧ Below W.heap.size W W' := by
  by_cases l : 200 < (a.size : Int) ∨ 200 < (b.size : Int) ∨ 200 < (c.size : Int) ∨ 200 < (s.size : Int)
  · exact tooMuch a b q k c n i s W l
  have l0 : (a.size : Int) ≤ 200 := by omega
  have l1 : (b.size : Int) ≤ 200 := by omega
  have l2 : (c.size : Int) ≤ 200 := by omega
  have l3 : (s.size : Int) ≤ 200 := by omega
  cases q
  · rcases (show (i ≠ 0 ∧ i ≠ 1) ∨ ((i = 0 ∨ i = 1) ∧ ((s.size : Int) < 1 ∨ 64 < (s.size : Int))) ∨ ((i = 0 ∨ i = 1) ∧ 1 ≤ (s.size : Int) ∧ (s.size : Int) ≤ 64) by omega) with h | ⟨h, g⟩ | ⟨h, g1, g2⟩
    · exact core a b false k c n i s W l0 l1 l2 l3 _ _ _ _ _ _ _ _ _ _ _ _ _ _ _ _ _ _ _ _ (fun w => fl_begin_arg _ _ _ _ _ _ _ h w) (fun w => fr_begin_arg _ _ _ _ _ _ _ h w) (fun w => fl_step_idle _ _ _ _ _ _ w) (fun w => fr_step_idle _ _ _ _ _ _ w) (fun w => fl_cut_idle _ _ _ _ _ _ w) (fun w => fr_cut_idle _ _ _ _ _ _ w)
    · exact core a b false k c n i s W l0 l1 l2 l3 _ _ _ _ _ _ _ _ _ _ _ _ _ _ _ _ _ _ _ _ (fun w => fl_begin_size _ _ _ _ _ _ _ h g w) (fun w => fr_begin_size _ _ _ _ _ _ _ h g w) (fun w => fl_step_idle _ _ _ _ _ _ w) (fun w => fr_step_idle _ _ _ _ _ _ w) (fun w => fl_cut_idle _ _ _ _ _ _ w) (fun w => fr_cut_idle _ _ _ _ _ _ w)
    · exact core a b false k c n i s W l0 l1 l2 l3 _ _ _ _ _ _ _ _ _ _ _ _ _ _ _ _ _ _ _ _ (fun w => fl_begin_ok _ _ _ _ _ _ _ h g1 g2 w) (fun w => fr_begin_ok _ _ _ _ _ _ _ h g1 g2 w) (fun w => fl_step_idle _ _ _ _ _ _ w) (fun w => fr_step_idle _ _ _ _ _ _ w) (fun w => fl_cut_idle _ _ _ _ _ _ w) (fun w => fr_cut_idle _ _ _ _ _ _ w)
  · by_cases hi : i = 3
    · have e : (i != 3) = false := by simp [hi]
      exact core a b true k c n i s W l0 l1 l2 l3 _ _ _ _ _ _ _ _ _ _ _ _ _ _ _ _ _ _ _ _ (fun w => fl_begin_busy _ _ _ _ _ _ _ w) (fun w => fr_begin_busy _ _ _ _ _ _ _ w) (fun w => by rw [e]; exact fl_step_torn _ _ _ _ _ w) (fun w => by rw [e]; exact fr_step_torn _ _ _ _ _ w) (fun w => fl_cut_busy _ _ _ _ _ _ w) (fun w => fr_cut_busy _ _ _ _ _ _ w)
    · have e : (i != 3) = true := by simp [hi]
      rcases Int.lt_or_le (nxV n) (c.size : Int) with h | h
      · exact core a b true k c n i s W l0 l1 l2 l3 _ _ _ _ _ _ _ _ _ _ _ _ _ _ _ _ _ _ _ _ (fun w => fl_begin_busy _ _ _ _ _ _ _ w) (fun w => fr_begin_busy _ _ _ _ _ _ _ w) (fun w => by rw [e]; exact fl_step_goes _ _ _ _ _ h w) (fun w => by rw [e]; exact fr_step_goes _ _ _ _ _ h w) (fun w => fl_cut_busy _ _ _ _ _ _ w) (fun w => fr_cut_busy _ _ _ _ _ _ w)
      · exact core a b true k c n i s W l0 l1 l2 l3 _ _ _ _ _ _ _ _ _ _ _ _ _ _ _ _ _ _ _ _ (fun w => fl_begin_busy _ _ _ _ _ _ _ w) (fun w => fr_begin_busy _ _ _ _ _ _ _ w) (fun w => by rw [e]; exact fl_step_done _ _ _ _ _ h w) (fun w => by rw [e]; exact fr_step_done _ _ _ _ _ h w) (fun w => fl_cut_busy _ _ _ _ _ _ w) (fun w => fr_cut_busy _ _ _ _ _ _ w)

theorem lifted (os : Os) (started : os.Started) (H : Type) (enc : TypeId × Value → H) :
    ReturnsInHanded {} Try.checked os 3 .any (Rows.flashSaysSpec.pre6 enc Try.prog Try.f3 Rows.flashSaysRow.domain false) (Rows.flashSaysSpec.post enc Try.prog Try.f3 false true false false) := by
  refine law_lift started (by kernel_rfl) Try.func3 rfl rfl ?_ (by kernel_rfl)
    (ChangeSpec.witness6 (enc := enc) (C := Try.checked) false ⟨#[], #[.agg #[.string ⟨#[]⟩, .string ⟨#[]⟩, .bool false, .int .i64 0, .string ⟨#[]⟩, .int .i64 0], .int .i64 0, .string ⟨#[]⟩], []⟩ 8 (by kernel_rfl) (by kernel_rfl) (by kernel_rfl) (by kernel_rfl)) ?_
  · intro ds hl
    match ds, hl with
    | [_, _, _], _ => exact ⟨rfl, rfl, rfl⟩
  · intro W base args ds p hval hA hlt hwt
    rw [Try.params3] at hA hval hwt
    obtain ⟨v0, vs0, d0, ds0, p0, q0, hargs, rfl, rfl, h0, r0⟩ := trodAll_cons hA
    obtain ⟨v1, vs1, d1, ds1, p1, q1, rfl, rfl, rfl, h1, r1⟩ := trodAll_cons r0
    obtain ⟨v2, vs2, d2, ds2, p2, q2, rfl, rfl, rfl, h2, r2⟩ := trodAll_cons r1
    obtain ⟨rfl, rfl, rfl⟩ := trodAll_nil r2
    obtain rfl : args = #[v0, v1, v2] := by cases args; simp_all
    obtain ⟨cs0, rfl, l0, k0⟩ := open_leaves 5 [.string, .string, .bool, .int .i64, .string, .int .i64] (by kernel_rfl) (by kernel_rfl) (hval 0 24 v0 rfl rfl) h0
    match cs0, l0, k0 with
    | [y0_0, y0_1, y0_2, y0_3, y0_4, y0_5], _, k0 =>
    obtain ⟨x0_0, e0_0, w0_0⟩ : leafIs (.string) y0_0 := k0 0 _ rfl
    subst e0_0
    obtain ⟨x0_1, e0_1, w0_1⟩ : leafIs (.string) y0_1 := k0 1 _ rfl
    subst e0_1
    obtain ⟨x0_2, e0_2⟩ : leafIs (.bool) y0_2 := k0 2 _ rfl
    subst e0_2
    obtain ⟨x0_3, e0_3, w0_3⟩ : leafIs (.int .i64) y0_3 := k0 3 _ rfl
    subst e0_3
    obtain ⟨x0_4, e0_4, w0_4⟩ : leafIs (.string) y0_4 := k0 4 _ rfl
    subst e0_4
    obtain ⟨x0_5, e0_5, w0_5⟩ : leafIs (.int .i64) y0_5 := k0 5 _ rfl
    subst e0_5
    obtain ⟨a1, rfl, rfl, rfl, w1⟩ := open_int Try.underlying3 (hval 1 3 v1 rfl rfl) h1
    obtain ⟨a2, rfl, rfl, rfl, w2⟩ := Go.ChangeMaps.open_string Try.underlying9 (hval 2 9 v2 rfl rfl) h2
    exact walk W x0_0 w0_0 x0_1 w0_1 x0_2 x0_3 w0_3 x0_4 w0_4 x0_5 w0_5 a1 w1 a2 w2

theorem over : Rows.flashSaysRow.holds Try.pinned (OpenSpec.ofChange Rows.flashSaysSpec) :=
  OpenClaim.holds_of_wide 3 Try.f3 rfl rfl rfl rfl rfl rfl rfl ⟨rfl, rfl, rfl, rfl, rfl⟩ rfl rfl rfl rfl rfl (by kernel_rfl) Try.func3 (by kernel_rfl)
    (of_decide_eq_true (by kernel_rfl)) (by unfold Func.isWrapper; first | (rw [if_pos (by decide +kernel)]; kernel_rfl) | (rw [if_neg (by decide +kernel)]; exact ⟨rfl, rfl⟩))
    (fun os started H enc _ => lifted os started H enc)

theorem proved : Rows.FlashSaysSaid := over
#print axioms proved
end Go.Proofs.Ytkeolailcipegaa.flashSays
