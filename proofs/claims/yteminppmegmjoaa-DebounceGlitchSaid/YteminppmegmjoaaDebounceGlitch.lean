/- DebounceGlitch holds of every two lists of truths, and any truth: what is told but once between others changes nothing. No condition. -/
import Derived.Test.YteminppmegmjoaaDeb
import Derived.Test.YteminppmegmjoaaTruths
namespace Go.Proofs.Yteminppmegmjoaa.debounceGlitch
open Go.ChangeShapes Go.WideShapes Go.ChangeAt Go.RowKit
set_option linter.unusedVariables false
attribute [local go_sem] cell_set_ite Near.cell Near.frozen

theorem two_firm (o on : Bool) (r : Int) : dbO (dbO o r on) (dbR o r on) on = on ∧ dbR (dbO o r on) (dbR o r on) on = 0 := by
  by_cases h : on = o
  · subst h
    obtain ⟨e1, e2⟩ := db_same on r
    rw [e1, e2]
    exact db_same on 0
  · by_cases hr : 1 ≤ r
    · obtain ⟨e1, e2⟩ := db_firm h hr
      rw [e1, e2]
      exact db_same on 0
    · obtain ⟨e1, e2⟩ := db_not h (show r ≤ 0 by omega)
      rw [e1, e2]
      exact db_firm h (by omega)

set_option maxRecDepth 100000 in
set_option maxHeartbeats 4000000 in
theorem some_ (W : World) (A B : Option Addr) (n c m d : Nat) (ps qs : List Bool) (on : Bool) (hi : Truths W A n ps) (hj : Truths W B m qs) (hn : n ≤ 100) (hm : m ≤ 100) (hc : n ≤ c) (hd : m ≤ d) :
    Calls Try.prog 5 #[.slice A n c, .slice B m d, .bool on] W fun e W' => e = .returned (.bool true) ∧ Below W.heap.size W W' := by
  have HI := Lib.hid hi
  have HJ := Lib.hid hj
  have A0 : Below W.heap.size W W := Below.refl _ _
  have A1 := below_alloc_on A0 (.cells #[.bool false, .int .i64 0] 23)
  have B1 := box_new W #[.bool false, .int .i64 0] 23
  have t1 : decide (100 < (n : Int)) = false := decide_eq_false (by omega)
  have t2 : decide (100 < (m : Int)) = false := decide_eq_false (by omega)
  clear hi hj
  go_enter Try.func5, Try.ntmps5
  go_wp2
  generalize W.alloc (.cells #[.bool false, .int .i64 0] 23) = w1 at *
  go_loopw [8, 22] (fun _ i wr => ∃ (j : Nat) (o : Bool) (r : Int), j ≤ n ∧ i = .int .i64 j ∧ Below W.heap.size W wr ∧ Box wr W.heap.size #[.bool o, .int .i64 r]) (fun _ i _ => n - (intOf i).toNat)
  case atStart => exact ⟨0, false, 0, Nat.zero_le _, rfl, A1, B1⟩
  case round =>
    clear A1 B1
    obtain ⟨j, o, r, hj, rfl, A1, B1⟩ := hrel
    obtain ⟨c0, c1, cf, cl⟩ := B1.two
    by_cases hlt : j < n
    · obtain ⟨b, off, rfl, hbs, hck⟩ := (HI.out.below A1).at_ hlt
      have HS := Lib.hid (fun w => db_step o r (ps.getD j false) w)
      generalize ps.getD j false = x at *
      generalize dbO o r x = o2 at *
      generalize dbR o r x = r2 at *
      go_wp2
      refine wp_region_calm_tail 6 (by kernel_rfl) (by kernel_rfl) ?_
      simp only [List.take_succ_cons, List.take_zero, List.drop_succ_cons, List.drop_zero]
      repeat (go_big_quiet_step (((go_at_call 6; exact calm_of _ (HS.out _)))))
      refine wpQuiet_nil ?_
      intro _ hw'
      obtain ⟨u, rfl⟩ := hw'
      go_wp2
      go_roundw
      case rel => exact ⟨j + 1, o2, r2, by omega, by go_num, below_set_on (below_set_on (u.up A1) (p := ⟨W.heap.size, 0, none⟩) (Nat.le_refl _) _) (p := ⟨W.heap.size, 1, none⟩) (Nat.le_refl _) _, (B1.near u).two_set _ _⟩
      case measure => simp [intOf]; omega
    · obtain rfl : j = n := by omega
      obtain ⟨f1, f2⟩ := two_firm o on r
      have H1 := Lib.hid (fun w => db_step o r on w)
      have H2 := Lib.hid (fun w => db_step (dbO o r on) (dbR o r on) on w)
      rw [f1, f2] at H2
      generalize dbO o r on = o1 at *
      generalize dbR o r on = r1 at *
      clear f1 f2
      have H3 := Lib.hid (fun w => db_step on 0 (!on) w)
      have H4 := Lib.hid (fun w => db_step on 1 on w)
      have g1 : dbO on 0 (!on) = on ∧ dbR on 0 (!on) = 1 := db_not (by cases on <;> simp) (by omega)
      have g2 : dbO on 1 on = on ∧ dbR on 1 on = 0 := db_same on 1
      rw [g1.1, g1.2] at H3
      rw [g2.1, g2.2] at H4
      clear g1 g2
      cases on
      · go_wp2_with (fail)
        refine (H1.out _).mono ?_
        rintro e w2 ⟨rfl, hb⟩
        have A2 := below_call A1 hb
        have B2 := B1.below hb
        clear hb A1 B1 c0 c1 cf cl
        go_wp2_with (fail)
        refine (H2.out _).mono ?_
        rintro e w3 ⟨rfl, hb⟩
        have A3 := below_call A2 hb
        have B3 := B2.below hb
        clear hb A2 B2
        obtain ⟨c0, c1, cf, cl⟩ := B3.two
        go_wp2_with (fail)
        refine (H3.out _).mono ?_
        rintro e w4 ⟨rfl, hb⟩
        have A4 := below_call (below_set_on (below_set_on A3 (p := ⟨W.heap.size, 0, none⟩) (Nat.le_refl _) _) (p := ⟨W.heap.size, 1, none⟩) (Nat.le_refl _) _) hb
        have B4 := (B3.two_set _ _).below hb
        clear hb A3 B3 c0 c1 cf cl
        go_wp2_with (fail)
        refine (H4.out _).mono ?_
        rintro e w5 ⟨rfl, hb⟩
        have A5 := below_call A4 hb
        have B5 := B4.below hb
        clear hb A4 B4 H1 H2 H3 H4
        obtain ⟨c0, c1, cf, cl⟩ := B5.two
        have hne : ¬ W.heap.size = w5.heap.size := by omega
        have hne2 : ¬ w5.heap.size = W.heap.size := by omega
        have hge : W.heap.size ≤ w5.heap.size := by omega
        have A6 := below_alloc_on A5 (.cells #[.bool false, .int .i64 0] 23)
        have B6 := B5.alloc (.cells #[.bool false, .int .i64 0] 23)
        have C6 := box_new w5 #[.bool false, .int .i64 0] 23
        go_wp2
        clear c0 c1 cf cl B5 A5
        generalize w5.alloc (.cells #[.bool false, .int .i64 0] 23) = w6 at *
        generalize w5.heap.size = g at *
        go_loopw [10, 54] (fun _ i wr => ∃ (q : Nat) (o : Bool) (r : Int), q ≤ m ∧ i = .int .i64 q ∧ Below W.heap.size W wr ∧ Box wr W.heap.size #[.bool o, .int .i64 r] ∧ Box wr g #[.bool o, .int .i64 r]) (fun _ i _ => m - (intOf i).toNat)
        case atStart => exact ⟨0, false, 0, Nat.zero_le _, rfl, A6, B6, C6⟩
        case round =>
          clear A6 B6 C6
          obtain ⟨q, o, r, hq, rfl, A1, B1, C1⟩ := hrel
          obtain ⟨c0, c1, cf, cl⟩ := B1.two
          obtain ⟨d0, d1, df, dl⟩ := C1.two
          by_cases hlt : q < m
          · obtain ⟨b, off, rfl, hbs, hck⟩ := (HJ.out.below A1).at_ hlt
            have HS := Lib.hid (fun w => db_step o r (qs.getD q false) w)
            generalize qs.getD q false = x at *
            generalize dbO o r x = o2 at *
            generalize dbR o r x = r2 at *
            go_wp2
            refine wp_region_calm_tail 12 (by kernel_rfl) (by kernel_rfl) ?_
            simp only [List.take_succ_cons, List.take_zero, List.drop_succ_cons, List.drop_zero]
            repeat (go_big_quiet_step (((go_at_call 6; exact calm_of _ (HS.out _)))))
            refine wpQuiet_nil ?_
            intro _ hw'
            obtain ⟨u, rfl⟩ := hw'
            have B2 := (((B1.near u).two_set (.bool o2) (.int .i64 r2)).far (p := ⟨g, 0, none⟩) hne2 (.bool o2)).far (p := ⟨g, 1, none⟩) hne2 (.int .i64 r2)
            have C2 := (((C1.near u).far (p := ⟨W.heap.size, 0, none⟩) hne (.bool o2)).far (p := ⟨W.heap.size, 1, none⟩) hne (.int .i64 r2)).two_set (.bool o2) (.int .i64 r2)
            have A2 := below_set_on (below_set_on (below_set_on (below_set_on (u.up A1) (p := ⟨W.heap.size, 0, none⟩) (Nat.le_refl _) (.bool o2)) (p := ⟨W.heap.size, 1, none⟩) (Nat.le_refl _) (.int .i64 r2)) (p := ⟨g, 0, none⟩) hge (.bool o2)) (p := ⟨g, 1, none⟩) hge (.int .i64 r2)
            go_wp2
            go_roundw
            case rel => exact ⟨q + 1, o2, r2, by omega, by go_num, A2, B2, C2⟩
            case measure => simp [intOf]; omega
          · obtain rfl : q = m := by omega
            go_wp2_with (fail)
            refine (law18_awake _).mono ?_
            rintro e w7 ⟨rfl, hb⟩
            go_wp2
            all_goals go_ret
            all_goals exact ⟨rfl, below_call A1 hb⟩
      · go_wp2_with (fail)
        refine (H1.out _).mono ?_
        rintro e w2 ⟨rfl, hb⟩
        have A2 := below_call A1 hb
        have B2 := B1.below hb
        clear hb A1 B1 c0 c1 cf cl
        go_wp2_with (fail)
        refine (H2.out _).mono ?_
        rintro e w3 ⟨rfl, hb⟩
        have A3 := below_call A2 hb
        have B3 := B2.below hb
        clear hb A2 B2
        obtain ⟨c0, c1, cf, cl⟩ := B3.two
        go_wp2_with (fail)
        refine (H3.out _).mono ?_
        rintro e w4 ⟨rfl, hb⟩
        have A4 := below_call (below_set_on (below_set_on A3 (p := ⟨W.heap.size, 0, none⟩) (Nat.le_refl _) _) (p := ⟨W.heap.size, 1, none⟩) (Nat.le_refl _) _) hb
        have B4 := (B3.two_set _ _).below hb
        clear hb A3 B3 c0 c1 cf cl
        go_wp2_with (fail)
        refine (H4.out _).mono ?_
        rintro e w5 ⟨rfl, hb⟩
        have A5 := below_call A4 hb
        have B5 := B4.below hb
        clear hb A4 B4 H1 H2 H3 H4
        obtain ⟨c0, c1, cf, cl⟩ := B5.two
        have hne : ¬ W.heap.size = w5.heap.size := by omega
        have hne2 : ¬ w5.heap.size = W.heap.size := by omega
        have hge : W.heap.size ≤ w5.heap.size := by omega
        have A6 := below_alloc_on A5 (.cells #[.bool true, .int .i64 0] 23)
        have B6 := B5.alloc (.cells #[.bool true, .int .i64 0] 23)
        have C6 := box_new w5 #[.bool true, .int .i64 0] 23
        go_wp2
        clear c0 c1 cf cl B5 A5
        generalize w5.alloc (.cells #[.bool true, .int .i64 0] 23) = w6 at *
        generalize w5.heap.size = g at *
        go_loopw [10, 54] (fun _ i wr => ∃ (q : Nat) (o : Bool) (r : Int), q ≤ m ∧ i = .int .i64 q ∧ Below W.heap.size W wr ∧ Box wr W.heap.size #[.bool o, .int .i64 r] ∧ Box wr g #[.bool o, .int .i64 r]) (fun _ i _ => m - (intOf i).toNat)
        case atStart => exact ⟨0, true, 0, Nat.zero_le _, rfl, A6, B6, C6⟩
        case round =>
          clear A6 B6 C6
          obtain ⟨q, o, r, hq, rfl, A1, B1, C1⟩ := hrel
          obtain ⟨c0, c1, cf, cl⟩ := B1.two
          obtain ⟨d0, d1, df, dl⟩ := C1.two
          by_cases hlt : q < m
          · obtain ⟨b, off, rfl, hbs, hck⟩ := (HJ.out.below A1).at_ hlt
            have HS := Lib.hid (fun w => db_step o r (qs.getD q false) w)
            generalize qs.getD q false = x at *
            generalize dbO o r x = o2 at *
            generalize dbR o r x = r2 at *
            go_wp2
            refine wp_region_calm_tail 12 (by kernel_rfl) (by kernel_rfl) ?_
            simp only [List.take_succ_cons, List.take_zero, List.drop_succ_cons, List.drop_zero]
            repeat (go_big_quiet_step (((go_at_call 6; exact calm_of _ (HS.out _)))))
            refine wpQuiet_nil ?_
            intro _ hw'
            obtain ⟨u, rfl⟩ := hw'
            have B2 := (((B1.near u).two_set (.bool o2) (.int .i64 r2)).far (p := ⟨g, 0, none⟩) hne2 (.bool o2)).far (p := ⟨g, 1, none⟩) hne2 (.int .i64 r2)
            have C2 := (((C1.near u).far (p := ⟨W.heap.size, 0, none⟩) hne (.bool o2)).far (p := ⟨W.heap.size, 1, none⟩) hne (.int .i64 r2)).two_set (.bool o2) (.int .i64 r2)
            have A2 := below_set_on (below_set_on (below_set_on (below_set_on (u.up A1) (p := ⟨W.heap.size, 0, none⟩) (Nat.le_refl _) (.bool o2)) (p := ⟨W.heap.size, 1, none⟩) (Nat.le_refl _) (.int .i64 r2)) (p := ⟨g, 0, none⟩) hge (.bool o2)) (p := ⟨g, 1, none⟩) hge (.int .i64 r2)
            go_wp2
            go_roundw
            case rel => exact ⟨q + 1, o2, r2, by omega, by go_num, A2, B2, C2⟩
            case measure => simp [intOf]; omega
          · obtain rfl : q = m := by omega
            go_wp2_with (fail)
            refine (law18_awake _).mono ?_
            rintro e w7 ⟨rfl, hb⟩
            go_wp2
            all_goals go_ret
            all_goals exact ⟨rfl, below_call A1 hb⟩

theorem walk (W : World) (A : Option Addr) (n c : Nat) (rs : List (List Value)) (hi : Rows [.bool] W A n rs) (hc : n ≤ c) (hr : n * 1 ≤ 140737488351232)
    (B : Option Addr) (m d : Nat) (ss : List (List Value)) (hj : Rows [.bool] W B m ss) (hd : m ≤ d) (hr2 : m * 1 ≤ 140737488351232) (on : Bool) :
    Calls Try.prog 5 #[.slice A n c, .slice B m d, .bool on] W fun e W' => e = .returned (.bool true) ∧ Below W.heap.size W W' := by
  by_cases h : 100 < n ∨ 100 < m
  · clear hi hj
    by_cases h1 : 100 < n
    · have t1 : decide (100 < (n : Int)) = true := decide_eq_true (by omega)
      go_enter Try.func5, Try.ntmps5
      go_wp2_with (fail)
      refine (law18_awake _).mono ?_
      rintro e w3 ⟨rfl, hb⟩
      go_wp2
      all_goals go_ret
      all_goals exact ⟨rfl, hb⟩
    · have t1 : decide (100 < (n : Int)) = false := decide_eq_false (by omega)
      have t2 : decide (100 < (m : Int)) = true := decide_eq_true (by omega)
      go_enter Try.func5, Try.ntmps5
      go_wp2_with (fail)
      refine (law18_awake _).mono ?_
      rintro e w3 ⟨rfl, hb⟩
      go_wp2
      all_goals go_ret
      all_goals exact ⟨rfl, hb⟩
  · obtain ⟨ps, hp⟩ := Truths.of_rows hi
    obtain ⟨qs, hq⟩ := Truths.of_rows hj
    exact some_ W A B n c m d ps qs on hp hq (by omega) (by omega) hc hd

theorem lifted (os : Os) (started : os.Started) (H : Type) (enc : TypeId × Value → H) :
    ReturnsInHanded {} Try.checked os 5 .any (Rows.debounceGlitchSpec.pre6 enc Try.prog Try.f5 Rows.debounceGlitchRow.domain false) (Rows.debounceGlitchSpec.post enc Try.prog Try.f5 false true false false) := by
  refine law_lift started (by kernel_rfl) Try.func5 rfl rfl ?_ (by kernel_rfl)
    (ChangeSpec.witness6 (enc := enc) (C := Try.checked) false ⟨#[], #[.slice none 0 0, .slice none 0 0, .bool false], []⟩ 8 (by kernel_rfl) (by kernel_rfl) (by kernel_rfl) (by kernel_rfl)) ?_
  · intro ds hl
    match ds, hl with
    | [_, _, _], _ => exact ⟨rfl, rfl, rfl⟩
  · intro W base args ds p hval hA hlt hwt
    rw [Try.params5] at hA hval hwt
    obtain ⟨v0, vs0, d0, ds0, p0, q0, hargs, rfl, rfl, h0, r0⟩ := trodAll_cons hA
    obtain ⟨v1, vs1, d1, ds1, p1, q1, rfl, rfl, rfl, h1, r1⟩ := trodAll_cons r0
    obtain ⟨v2, vs2, d2, ds2, p2, q2, rfl, rfl, rfl, h2, r2⟩ := trodAll_cons r1
    obtain ⟨rfl, rfl, rfl⟩ := trodAll_nil r2
    obtain rfl : args = #[v0, v1, v2] := by cases args; simp_all
    have wt0 : ∀ n ∈ d0.weights Try.prog 27, n ≤ reachBytes := fun n hn => by
      have := List.all_eq_true.1 hwt n (DataW.weights_mem_each (j := 0) (t := 27) (d := d0) rfl rfl n hn)
      simpa using this
    have lt0 : ∀ x ∈ p0, x.block < W.heap.size := fun x hx => hlt x (by simp [hx])
    obtain ⟨A0, n0, c0, xs0, rfl, hi0, hc0, hr0⟩ := open_rows_arg 5 [.bool] Try.underlying27 (by kernel_rfl) (by kernel_rfl) (by decide) (by kernel_rfl) (hval 0 27 v0 rfl rfl) h0 lt0 wt0
    have wt1 : ∀ n ∈ d1.weights Try.prog 27, n ≤ reachBytes := fun n hn => by
      have := List.all_eq_true.1 hwt n (DataW.weights_mem_each (j := 1) (t := 27) (d := d1) rfl rfl n hn)
      simpa using this
    have lt1 : ∀ x ∈ p1, x.block < W.heap.size := fun x hx => hlt x (by simp [hx])
    obtain ⟨A1, n1, c1, xs1, rfl, hi1, hc1, hr1⟩ := open_rows_arg 5 [.bool] Try.underlying27 (by kernel_rfl) (by kernel_rfl) (by decide) (by kernel_rfl) (hval 1 27 v1 rfl rfl) h1 lt1 wt1
    obtain ⟨a2, rfl, rfl, rfl⟩ := open_bool Try.underlying4 (hval 2 4 v2 rfl rfl) h2
    exact walk W A0 n0 c0 xs0 hi0 hc0 hr0 A1 n1 c1 xs1 hi1 hc1 hr1 a2

theorem over : Rows.debounceGlitchRow.holds Try.pinned (OpenSpec.ofChange Rows.debounceGlitchSpec) :=
  OpenClaim.holds_of_wide 5 Try.f5 rfl rfl rfl rfl rfl rfl rfl ⟨rfl, rfl, rfl, rfl, rfl⟩ rfl rfl rfl rfl rfl (by kernel_rfl) Try.func5 (by kernel_rfl)
    (of_decide_eq_true (by kernel_rfl)) (by unfold Func.isWrapper; first | (rw [if_pos (by decide +kernel)]; kernel_rfl) | (rw [if_neg (by decide +kernel)]; exact ⟨rfl, rfl⟩))
    (fun os started H enc _ => lifted os started H enc)

theorem proved : Rows.DebounceGlitchSaid := over
#print axioms proved
end Go.Proofs.Yteminppmegmjoaa.debounceGlitch
