/- RecordBack holds of every record and every part: a record that may be, and has no marks, is taken as it was, and so it is with less than one added. No condition. -/
import Derived.Test.YtbiagohlpdpobaaLaw11
import Derived.Test.YtbiagohlpdpobaaAddF
import Derived.Test.YtbiagohlpdpobaaLeaf
namespace Go.Proofs.Ytbiagohlpdpobaa.recordBack
open Go.ChangeShapes Go.WideShapes Go.ChangeAt Go.RowKit Ieee
set_option linter.unusedVariables false
attribute [local go_sem] run_store_real cell_set_ite Near.cell Near.frozen

theorem rem_part {v : Int} (h0 : 0 ≤ v) (h1 : v ≤ 65535) : IntKind.u16.wrap (v.tmod 1000) = v % 1000 := by
  have : v.tmod 1000 = v % 1000 := Int.tmod_eq_emod_of_nonneg h0
  rw [this]
  unfold IntKind.wrap; simp [IntKind.signed, IntKind.bits]; omega

set_option maxRecDepth 100000 in
set_option maxHeartbeats 2000000 in
theorem walk (A : Int) (wA : (Lit.int .i64 A).wf = true) (T : Int) (wT : (Lit.int .i64 T).wf = true) (B : Int) (wB : (Lit.int .i64 B).wf = true) (E : Int) (wE : (Lit.int .i64 E).wf = true) (d : Bool) (K : Int) (wK : (Lit.int .i64 K).wf = true) (z : Bool) (O : Int) (wO : (Lit.int .i64 O).wf = true) (v : Int) (wv : (Lit.int .u16 v).wf = true) (W : World) :
    Calls Try.prog 5 #[.agg #[.int .i64 A, .int .i64 T, .int .i64 B, .int .i64 E, .bool d, .int .i64 K, .bool z, .int .i64 O], .int .u16 v] W fun x W' => x = .returned (.bool true) ∧ Below W.heap.size W W' := by
  have v0 : 0 ≤ v ∧ v ≤ 65535 := by simp only [Lit.wf, IntKind.min, IntKind.max, IntKind.signed, IntKind.bits, Bool.and_eq_true] at wv; simpa using wv
  obtain ⟨v0, v1⟩ := v0
  clear wA wT wB wE wK wO wv
  have h4 := fun w => rc_clean A T B E d K z O w
  have A0 : Below W.heap.size W W := Below.refl _ _
  by_cases hc : clnB A T B E K O = true
  · rw [hc] at h4
    have H4 := Lib.hid h4
    clear h4
    by_cases hO : O = 0
    · subst hO
      obtain ⟨⟨a0, a1⟩, ⟨t0, t1⟩, ⟨b0, b1⟩, ⟨e0, e1⟩, hk⟩ : (0 ≤ A ∧ A ≤ 4095) ∧ (0 ≤ T ∧ T ≤ 180) ∧ (0 ≤ B ∧ B ≤ 6000) ∧ (0 ≤ E ∧ E ≤ 300) ∧ upB K 10 = true := by
        unfold clnB at hc
        simp only [Bool.and_eq_true] at hc
        obtain ⟨⟨⟨⟨⟨h1, h2⟩, h3⟩, h4⟩, h5⟩, h6⟩ := hc
        exact ⟨of_decide_eq_true h1, of_decide_eq_true h2, of_decide_eq_true h3, of_decide_eq_true h4, h5⟩
      have hky : kyV K = K := by unfold kyV; rw [if_pos hk]
      have h2 := fun w => rc_raw A T B E d K z 0 w
      have h3 := fun w => rc_take (floatOfInt .f64 A) (floatOfInt .f64 T) (floatOfInt .f64 B) (floatOfInt .f64 E) d K z w
      have qA := tk_int a0 a1 (by omega)
      have qT := tk_int t0 t1 (by omega)
      have qB := tk_int b0 b1 (by omega)
      have qE := tk_int e0 e1 (by omega)
      rw [qA.1, qA.2, qT.1, qT.2, qB.1, qB.2, qE.1, qE.2, hky, hk, show badV false false false false (!true) = 0 from by decide] at h3
      obtain ⟨m, hm⟩ : ∃ m : Nat, v % 1000 = (m : Int) := ⟨(v % 1000).toNat, by omega⟩
      obtain ⟨y, hy, hs, hr⟩ := part_at (k := m) (by omega)
      have hw := rem_part v0 v1
      rw [← hm] at hy
      by_cases hlt : A < 4095 ∧ T < 180
      · obtain ⟨ha, ht⟩ := hlt
        obtain ⟨x1, p1, p2, p3⟩ := add_part (n := A) (hi := 4095) a0 (by omega) (by omega) hs hr
        obtain ⟨x2, p4, p5, p6⟩ := add_part (n := T) (hi := 180) t0 (by omega) (by omega) hs hr
        have h5 := fun w => rc_take x1 x2 (floatOfInt .f64 B) (floatOfInt .f64 E) d K z w
        rw [p2, p3, p5, p6, qB.1, qB.2, qE.1, qE.2, hky, hk, show badV false false false false (!true) = 0 from by decide] at h5
        have q1 : ∀ t w, (binOp .quo t (.float .f64 (floatOfInt .f64 (v % 1000))) (.float .f64 4652007308841189376)).run Try.prog w = .ok (.float .f64 y) w := fun t w => run_float_arith w .quo t .f64 _ _ _ hy
        have q2 : ∀ t w, (binOp .add t (.float .f64 (floatOfInt .f64 A)) (.float .f64 y)).run Try.prog w = .ok (.float .f64 x1) w := fun t w => run_float_arith w .add t .f64 _ _ _ p1
        have q3 : ∀ t w, (binOp .add t (.float .f64 (floatOfInt .f64 T)) (.float .f64 y)).run Try.prog w = .ok (.float .f64 x2) w := fun t w => run_float_arith w .add t .f64 _ _ _ p4
        have H2 := Lib.hid h2
        have H3 := Lib.hid h3
        have H5 := Lib.hid h5
        have l1 := decide_eq_true ha
        have l2 := decide_eq_true ht
        clear qA qT qB qE hky hk hc a0 a1 t0 t1 b0 b1 e0 e1 hs hr p1 p2 p3 p4 p5 p6 hy hm h2 h3 h5
        generalize floatOfInt .f64 A = fA at *
        generalize floatOfInt .f64 T = fT at *
        generalize floatOfInt .f64 B = fB at *
        generalize floatOfInt .f64 E = fE at *
        go_enter Try.func5, Try.ntmps5
        go_wp2_with (fail)
        refine (H4.out _).mono ?_
        rintro e w1 ⟨rfl, hb⟩
        have A1 := below_call (below_alloc_on A0 _) hb
        have B1 := (box_new W _ _).below hb
        obtain ⟨c0, c1, c2, c3, c4, c5, c6, c7, cf, cl⟩ := B1.eight
        clear hb
        go_wp2_with (fail)
        refine (H2.out _).mono ?_
        rintro e w2 ⟨rfl, hb⟩
        have A2 := below_call A1 hb
        have B2 := B1.below hb
        have n1 : ¬ W.heap.size = w2.heap.size := by have := B2.1; omega
        have n2 : ¬ W.heap.size = w2.heap.size + 1 := by have := B2.1; omega
        clear hb A1 B1 c0 c1 c2 c3 c4 c5 c6 c7 cf cl
        obtain ⟨c0, c1, c2, c3, c4, c5, c6, c7, cf, cl⟩ := B2.eight
        have A3 := below_alloc_on (below_alloc_on A2 (.cells #[.float .f64 fA, .float .f64 fT, .float .f64 fB, .float .f64 fE, .bool d, .int .i64 K, .bool z] 24)) (.cells #[.float .f64 x1, .float .f64 x2, .float .f64 fB, .float .f64 fE, .bool d, .int .i64 K, .bool z] 24)
        have B3 := (B2.alloc (.cells #[.float .f64 fA, .float .f64 fT, .float .f64 fB, .float .f64 fE, .bool d, .int .i64 K, .bool z] 24)).alloc (.cells #[.float .f64 x1, .float .f64 x2, .float .f64 fB, .float .f64 fE, .bool d, .int .i64 K, .bool z] 24)
        have C3 := (box_new w2 #[.float .f64 fA, .float .f64 fT, .float .f64 fB, .float .f64 fE, .bool d, .int .i64 K, .bool z] 24).alloc (.cells #[.float .f64 x1, .float .f64 x2, .float .f64 fB, .float .f64 fE, .bool d, .int .i64 K, .bool z] 24)
        have D3 := box_at (w2.alloc (.cells #[.float .f64 fA, .float .f64 fT, .float .f64 fB, .float .f64 fE, .bool d, .int .i64 K, .bool z] 24)) #[.float .f64 x1, .float .f64 x2, .float .f64 fB, .float .f64 fE, .bool d, .int .i64 K, .bool z] 24 (g := w2.heap.size + 1) (by simp)
        go_wp2
        generalize (w2.alloc (.cells #[.float .f64 fA, .float .f64 fT, .float .f64 fB, .float .f64 fE, .bool d, .int .i64 K, .bool z] 24)).alloc (.cells #[.float .f64 x1, .float .f64 x2, .float .f64 fB, .float .f64 fE, .bool d, .int .i64 K, .bool z] 24) = w3 at *
        generalize w2.heap.size = g2 at *
        clear c0 c1 c2 c3 c4 c5 c6 c7 cf cl A2 B2
        obtain ⟨c0, c1, c2, c3, c4, c5, c6, c7, cf, cl⟩ := B3.eight
        obtain ⟨d0, d1, d2, d3, d4, d5, d6, df, dl⟩ := C3.seven
        obtain ⟨e0, e1, e2, e3, e4, e5, e6, ef, el⟩ := D3.seven
        refine wp_region_calm (by kernel_rfl) (by kernel_rfl) ?_
        repeat (go_big_quiet_step ((first | ((go_at_call 9; with_reducible exact calm_of _ (H3.out _))) | ((go_at_call 9; with_reducible exact calm_of _ (H5.out _))) | ((go_at_call 13; exact calm_of _ (law11_awake _))))))
        refine wpQuiet_nil ?_
        intro _ hw'
        obtain ⟨u, rfl⟩ := hw'
        go_wp2
        all_goals go_ret
        all_goals exact ⟨rfl, u.up A3⟩
      · have hor : (decide (A < 4095)) = false ∨ (decide (A < 4095) = true ∧ decide (T < 180) = false) := by
          by_cases h : A < 4095
          · exact .inr ⟨decide_eq_true h, decide_eq_false fun g => hlt ⟨h, g⟩⟩
          · exact .inl (decide_eq_false h)
        have q1 : ∀ t w, (binOp .quo t (.float .f64 (floatOfInt .f64 (v % 1000))) (.float .f64 4652007308841189376)).run Try.prog w = .ok (.float .f64 y) w := fun t w => run_float_arith w .quo t .f64 _ _ _ hy
        have H2 := Lib.hid h2
        have H3 := Lib.hid h3
        clear qA qT qB qE hky hk hc a0 a1 t0 t1 b0 b1 e0 e1 hs hr hy hm h2 h3 hlt
        rcases hor with l1 | ⟨l1, l2⟩
        · generalize floatOfInt .f64 A = fA at *
          generalize floatOfInt .f64 T = fT at *
          generalize floatOfInt .f64 B = fB at *
          generalize floatOfInt .f64 E = fE at *
          go_enter Try.func5, Try.ntmps5
          go_wp2_with (fail)
          refine (H4.out _).mono ?_
          rintro e w1 ⟨rfl, hb⟩
          have A1 := below_call (below_alloc_on A0 _) hb
          have B1 := (box_new W _ _).below hb
          obtain ⟨c0, c1, c2, c3, c4, c5, c6, c7, cf, cl⟩ := B1.eight
          clear hb
          go_wp2_with (fail)
          refine (H2.out _).mono ?_
          rintro e w2 ⟨rfl, hb⟩
          have A2 := below_call A1 hb
          have B2 := B1.below hb
          have n1 : ¬ W.heap.size = w2.heap.size := by have := B2.1; omega
          have n2 : ¬ W.heap.size = w2.heap.size + 1 := by have := B2.1; omega
          clear hb A1 B1 c0 c1 c2 c3 c4 c5 c6 c7 cf cl
          obtain ⟨c0, c1, c2, c3, c4, c5, c6, c7, cf, cl⟩ := B2.eight
          have A3 := below_alloc_on (below_alloc_on A2 (.cells #[.float .f64 fA, .float .f64 fT, .float .f64 fB, .float .f64 fE, .bool d, .int .i64 K, .bool z] 24)) (.cells #[.float .f64 fA, .float .f64 fT, .float .f64 fB, .float .f64 fE, .bool d, .int .i64 K, .bool z] 24)
          have B3 := (B2.alloc (.cells #[.float .f64 fA, .float .f64 fT, .float .f64 fB, .float .f64 fE, .bool d, .int .i64 K, .bool z] 24)).alloc (.cells #[.float .f64 fA, .float .f64 fT, .float .f64 fB, .float .f64 fE, .bool d, .int .i64 K, .bool z] 24)
          have C3 := (box_new w2 #[.float .f64 fA, .float .f64 fT, .float .f64 fB, .float .f64 fE, .bool d, .int .i64 K, .bool z] 24).alloc (.cells #[.float .f64 fA, .float .f64 fT, .float .f64 fB, .float .f64 fE, .bool d, .int .i64 K, .bool z] 24)
          have D3 := box_at (w2.alloc (.cells #[.float .f64 fA, .float .f64 fT, .float .f64 fB, .float .f64 fE, .bool d, .int .i64 K, .bool z] 24)) #[.float .f64 fA, .float .f64 fT, .float .f64 fB, .float .f64 fE, .bool d, .int .i64 K, .bool z] 24 (g := w2.heap.size + 1) (by simp)
          go_wp2
          generalize (w2.alloc (.cells #[.float .f64 fA, .float .f64 fT, .float .f64 fB, .float .f64 fE, .bool d, .int .i64 K, .bool z] 24)).alloc (.cells #[.float .f64 fA, .float .f64 fT, .float .f64 fB, .float .f64 fE, .bool d, .int .i64 K, .bool z] 24) = w3 at *
          generalize w2.heap.size = g2 at *
          clear c0 c1 c2 c3 c4 c5 c6 c7 cf cl A2 B2
          obtain ⟨c0, c1, c2, c3, c4, c5, c6, c7, cf, cl⟩ := B3.eight
          obtain ⟨d0, d1, d2, d3, d4, d5, d6, df, dl⟩ := C3.seven
          obtain ⟨e0, e1, e2, e3, e4, e5, e6, ef, el⟩ := D3.seven
          refine wp_region_calm (by kernel_rfl) (by kernel_rfl) ?_
          repeat (go_big_quiet_step ((first | ((go_at_call 9; with_reducible exact calm_of _ (H3.out _))) | ((go_at_call 13; exact calm_of _ (law11_awake _))))))
          refine wpQuiet_nil ?_
          intro _ hw'
          obtain ⟨u, rfl⟩ := hw'
          go_wp2
          all_goals go_ret
          all_goals exact ⟨rfl, u.up A3⟩
        · generalize floatOfInt .f64 A = fA at *
          generalize floatOfInt .f64 T = fT at *
          generalize floatOfInt .f64 B = fB at *
          generalize floatOfInt .f64 E = fE at *
          go_enter Try.func5, Try.ntmps5
          go_wp2_with (fail)
          refine (H4.out _).mono ?_
          rintro e w1 ⟨rfl, hb⟩
          have A1 := below_call (below_alloc_on A0 _) hb
          have B1 := (box_new W _ _).below hb
          obtain ⟨c0, c1, c2, c3, c4, c5, c6, c7, cf, cl⟩ := B1.eight
          clear hb
          go_wp2_with (fail)
          refine (H2.out _).mono ?_
          rintro e w2 ⟨rfl, hb⟩
          have A2 := below_call A1 hb
          have B2 := B1.below hb
          have n1 : ¬ W.heap.size = w2.heap.size := by have := B2.1; omega
          have n2 : ¬ W.heap.size = w2.heap.size + 1 := by have := B2.1; omega
          clear hb A1 B1 c0 c1 c2 c3 c4 c5 c6 c7 cf cl
          obtain ⟨c0, c1, c2, c3, c4, c5, c6, c7, cf, cl⟩ := B2.eight
          have A3 := below_alloc_on (below_alloc_on A2 (.cells #[.float .f64 fA, .float .f64 fT, .float .f64 fB, .float .f64 fE, .bool d, .int .i64 K, .bool z] 24)) (.cells #[.float .f64 fA, .float .f64 fT, .float .f64 fB, .float .f64 fE, .bool d, .int .i64 K, .bool z] 24)
          have B3 := (B2.alloc (.cells #[.float .f64 fA, .float .f64 fT, .float .f64 fB, .float .f64 fE, .bool d, .int .i64 K, .bool z] 24)).alloc (.cells #[.float .f64 fA, .float .f64 fT, .float .f64 fB, .float .f64 fE, .bool d, .int .i64 K, .bool z] 24)
          have C3 := (box_new w2 #[.float .f64 fA, .float .f64 fT, .float .f64 fB, .float .f64 fE, .bool d, .int .i64 K, .bool z] 24).alloc (.cells #[.float .f64 fA, .float .f64 fT, .float .f64 fB, .float .f64 fE, .bool d, .int .i64 K, .bool z] 24)
          have D3 := box_at (w2.alloc (.cells #[.float .f64 fA, .float .f64 fT, .float .f64 fB, .float .f64 fE, .bool d, .int .i64 K, .bool z] 24)) #[.float .f64 fA, .float .f64 fT, .float .f64 fB, .float .f64 fE, .bool d, .int .i64 K, .bool z] 24 (g := w2.heap.size + 1) (by simp)
          go_wp2
          generalize (w2.alloc (.cells #[.float .f64 fA, .float .f64 fT, .float .f64 fB, .float .f64 fE, .bool d, .int .i64 K, .bool z] 24)).alloc (.cells #[.float .f64 fA, .float .f64 fT, .float .f64 fB, .float .f64 fE, .bool d, .int .i64 K, .bool z] 24) = w3 at *
          generalize w2.heap.size = g2 at *
          clear c0 c1 c2 c3 c4 c5 c6 c7 cf cl A2 B2
          obtain ⟨c0, c1, c2, c3, c4, c5, c6, c7, cf, cl⟩ := B3.eight
          obtain ⟨d0, d1, d2, d3, d4, d5, d6, df, dl⟩ := C3.seven
          obtain ⟨e0, e1, e2, e3, e4, e5, e6, ef, el⟩ := D3.seven
          refine wp_region_calm (by kernel_rfl) (by kernel_rfl) ?_
          repeat (go_big_quiet_step ((first | ((go_at_call 9; with_reducible exact calm_of _ (H3.out _))) | ((go_at_call 13; exact calm_of _ (law11_awake _))))))
          refine wpQuiet_nil ?_
          intro _ hw'
          obtain ⟨u, rfl⟩ := hw'
          go_wp2
          all_goals go_ret
          all_goals exact ⟨rfl, u.up A3⟩
    · have l1 : (O == 0) = false := by simpa using hO
      go_enter Try.func5, Try.ntmps5
      go_wp2_with (fail)
      refine (H4.out _).mono ?_
      rintro e w1 ⟨rfl, hb⟩
      have A1 := below_call (below_alloc_on A0 _) hb
      have B1 := (box_new W _ _).below hb
      obtain ⟨c0, c1, c2, c3, c4, c5, c6, c7, cf, cl⟩ := B1.eight
      clear hb
      go_wp2_with (go_at_call 13; refine (law11_awake _).mono ?_; rintro e w' ⟨rfl, hb⟩)
      all_goals go_ret
      all_goals exact ⟨rfl, below_call A1 hb⟩
  · have hc2 : clnB A T B E K O = false := by simpa using hc
    rw [hc2] at h4
    have H4 := Lib.hid h4
    clear h4 hc hc2
    go_enter Try.func5, Try.ntmps5
    go_wp2_with (fail)
    refine (H4.out _).mono ?_
    rintro e w1 ⟨rfl, hb⟩
    have A1 := below_call (below_alloc_on A0 _) hb
    clear hb
    go_wp2_with (go_at_call 13; refine (law11_awake _).mono ?_; rintro e w' ⟨rfl, hb⟩)
    all_goals go_ret
    all_goals exact ⟨rfl, below_call A1 hb⟩

theorem lifted (os : Os) (started : os.Started) (H : Type) (enc : TypeId × Value → H) :
    ReturnsInHanded {} Try.checked os 5 .any (Rows.recordBackSpec.pre6 enc Try.prog Try.f5 Rows.recordBackRow.domain false) (Rows.recordBackSpec.post enc Try.prog Try.f5 false true false false) := by
  refine law_lift started (by kernel_rfl) Try.func5 rfl rfl ?_ (by kernel_rfl)
    (ChangeSpec.witness6 (enc := enc) (C := Try.checked) false ⟨#[], #[.agg #[.int .i64 0, .int .i64 0, .int .i64 0, .int .i64 0, .bool false, .int .i64 0, .bool false, .int .i64 0], .int .u16 0], []⟩ 8 (by kernel_rfl) (by kernel_rfl) (by kernel_rfl) (by kernel_rfl)) ?_
  · intro ds hl
    match ds, hl with
    | [_, _], _ => exact ⟨rfl, rfl, rfl⟩
  · intro W base args ds p hval hA hlt hwt
    rw [Try.params5] at hA hval hwt
    obtain ⟨v0, vs0, d0, ds0, p0, q0, hargs, rfl, rfl, h0, r0⟩ := trodAll_cons hA
    obtain ⟨v1, vs1, d1, ds1, p1, q1, rfl, rfl, rfl, h1, r1⟩ := trodAll_cons r0
    obtain ⟨rfl, rfl, rfl⟩ := trodAll_nil r1
    obtain rfl : args = #[v0, v1] := by cases args; simp_all
    obtain ⟨cs0, rfl, l0, k0⟩ := open_leaves 5 [.int .i64, .int .i64, .int .i64, .int .i64, .bool, .int .i64, .bool, .int .i64] (by kernel_rfl) (by kernel_rfl) (hval 0 26 v0 rfl rfl) h0
    match cs0, l0, k0 with
    | [y0_0, y0_1, y0_2, y0_3, y0_4, y0_5, y0_6, y0_7], _, k0 =>
    obtain ⟨x0_0, e0_0, w0_0⟩ : leafIs (.int .i64) y0_0 := k0 0 _ rfl
    subst e0_0
    obtain ⟨x0_1, e0_1, w0_1⟩ : leafIs (.int .i64) y0_1 := k0 1 _ rfl
    subst e0_1
    obtain ⟨x0_2, e0_2, w0_2⟩ : leafIs (.int .i64) y0_2 := k0 2 _ rfl
    subst e0_2
    obtain ⟨x0_3, e0_3, w0_3⟩ : leafIs (.int .i64) y0_3 := k0 3 _ rfl
    subst e0_3
    obtain ⟨x0_4, e0_4⟩ : leafIs (.bool) y0_4 := k0 4 _ rfl
    subst e0_4
    obtain ⟨x0_5, e0_5, w0_5⟩ : leafIs (.int .i64) y0_5 := k0 5 _ rfl
    subst e0_5
    obtain ⟨x0_6, e0_6⟩ : leafIs (.bool) y0_6 := k0 6 _ rfl
    subst e0_6
    obtain ⟨x0_7, e0_7, w0_7⟩ : leafIs (.int .i64) y0_7 := k0 7 _ rfl
    subst e0_7
    obtain ⟨a1, rfl, rfl, rfl, w1⟩ := open_int Try.underlying33 (hval 1 33 v1 rfl rfl) h1
    exact walk x0_0 w0_0 x0_1 w0_1 x0_2 w0_2 x0_3 w0_3 x0_4 x0_5 w0_5 x0_6 x0_7 w0_7 a1 w1 W

theorem over : Rows.recordBackRow.holds Try.pinned (OpenSpec.ofChange Rows.recordBackSpec) :=
  OpenClaim.holds_of_wide 5 Try.f5 rfl rfl rfl rfl rfl rfl rfl ⟨rfl, rfl, rfl, rfl, rfl⟩ rfl rfl rfl rfl rfl (by kernel_rfl) Try.func5 (by kernel_rfl)
    (of_decide_eq_true (by kernel_rfl)) (by unfold Func.isWrapper; first | (rw [if_pos (by decide +kernel)]; kernel_rfl) | (rw [if_neg (by decide +kernel)]; exact ⟨rfl, rfl⟩))
    (fun os started H enc _ => lifted os started H enc)

theorem proved : Rows.RecordBackSaid := over
#print axioms proved
end Go.Proofs.Ytbiagohlpdpobaa.recordBack
