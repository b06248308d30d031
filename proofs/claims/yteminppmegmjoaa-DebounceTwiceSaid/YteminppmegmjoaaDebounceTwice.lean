/- DebounceTwice holds of every list of truths: it is what was told last twice in a row. No condition. -/
import Derived.Test.YteminppmegmjoaaDeb
import Derived.Test.YteminppmegmjoaaTruths
namespace Go.Proofs.Yteminppmegmjoaa.debounceTwice
open Go.ChangeShapes Go.WideShapes Go.ChangeAt Go.RowKit
set_option linter.unusedVariables false
attribute [local go_sem] cell_set_ite Near.cell Near.frozen

/-- How long it was otherwise, behind p. -/
def otR (o p : Bool) : Int := if o = p then 0 else 1
theorem next_is (o p x : Bool) : dbR o (otR o p) x = otR (dbO o (otR o p) x) x ∧ dbO o (otR o p) x = (if x = p then x else o) := by
  cases o <;> cases p <;> cases x <;> decide

set_option maxRecDepth 100000 in
set_option maxHeartbeats 4000000 in
theorem some_ (W : World) (A : Option Addr) (n c : Nat) (ps : List Bool) (hi : Truths W A n ps) (hn : n ≤ 200) (hc : n ≤ c) :
    Calls Try.prog 4 #[.slice A n c] W fun e W' => e = .returned (.bool true) ∧ Below W.heap.size W W' := by
  have HI := Lib.hid hi
  have A0 : Below W.heap.size W W := Below.refl _ _
  have A1 := below_alloc_on A0 (.cells #[.bool false, .int .i64 0] 23)
  have B1 := box_new W #[.bool false, .int .i64 0] 23
  have t1 : decide (200 < (n : Int)) = false := decide_eq_false (by omega)
  clear hi
  go_enter Try.func4, Try.ntmps4
  go_wp2
  generalize W.alloc (.cells #[.bool false, .int .i64 0] 23) = w1 at *
  go_loopw [4, 5, 12] (fun v _ i wr => ∃ (j : Nat) (o : Bool), j ≤ n ∧ i = .int .i64 j ∧ v = .bool o ∧ Below W.heap.size W wr ∧ ((j = 0 ∧ o = false ∧ Box wr W.heap.size #[.bool false, .int .i64 0]) ∨ (0 < j ∧ Box wr W.heap.size #[.bool o, .int .i64 (otR o (ps.getD (j - 1) false))]))) (fun _ _ i _ => n - (intOf i).toNat)
  case atStart => exact ⟨0, false, Nat.zero_le _, rfl, rfl, A1, .inl ⟨rfl, rfl, B1⟩⟩
  case round =>
    clear A1 B1
    obtain ⟨j, o, hj, rfl, rfl, A1, hs⟩ := hrel
    by_cases hlt : j < n
    · obtain ⟨b, off, rfl, hbs, hck⟩ := (HI.out.below A1).at_ hlt
      have hbW : b < W.heap.size := by
        obtain ⟨b', off', e, h, _⟩ := HI.out.at_ hlt
        cases e; exact h
      obtain ⟨r, B1, hs⟩ : ∃ r, Box wr W.heap.size #[.bool o, .int .i64 r] ∧ ((j = 0 ∧ o = false ∧ r = 0) ∨ (0 < j ∧ r = otR o (ps.getD (j - 1) false))) := by
        rcases hs with ⟨h, rfl, B⟩ | ⟨h, B⟩
        · exact ⟨_, B, .inl ⟨h, rfl, rfl⟩⟩
        · exact ⟨_, B, .inr ⟨h, rfl⟩⟩
      obtain ⟨x, hx⟩ : ∃ x, ps.getD j false = x := ⟨_, rfl⟩
      rw [hx] at hck
      have HX := Lib.hid hx
      clear hx
      obtain ⟨o2, h2⟩ : ∃ o2, dbO o r x = o2 := ⟨_, rfl⟩
      obtain ⟨r2, h3⟩ : ∃ r2, dbR o r x = r2 := ⟨_, rfl⟩
      have HS := Lib.hid (show ∀ w, Calls Try.prog 6 #[.agg #[.bool o, .int .i64 r], .bool x] w fun e w' => e = .returned (.agg #[.bool o2, .int .i64 r2]) ∧ Below w.heap.size w w' from fun w => h2 ▸ h3 ▸ db_step o r x w)
      obtain ⟨c0, c1, cf, cl⟩ := B1.two
      have hbr : b < wr.heap.size := hbs
      rcases hs with ⟨hj0, rfl, rfl⟩ | ⟨hj0, rfl⟩
      · have hv : r2 = otR o2 x ∧ o2 = false := by subst h2; subst h3; cases x <;> decide
        obtain ⟨hv1, hv2⟩ := hv
        subst hv2
        clear h2 h3
        have t2 : decide (0 < (j : Int)) = false := decide_eq_false (by omega)
        have t2' : decide (0 < j) = false := decide_eq_false (by omega)
        have t3 : decide (r2 < 0) = false := decide_eq_false (by rw [hv1]; unfold otR; split <;> omega)
        have t4 : decide (1 < r2) = false := decide_eq_false (by rw [hv1]; unfold otR; split <;> omega)
        have t5 : (r2 == 0) = (false == x) := by rw [hv1]; cases x <;> decide
        have HV := Lib.hid hv1
        clear hv1 hj0
        cases x
        all_goals
          go_wp2
          refine wp_region_calm_tail 6 (by kernel_rfl) (by kernel_rfl) ?_
          simp only [List.take_succ_cons, List.take_zero, List.drop_succ_cons, List.drop_zero]
          repeat (go_big_quiet_step (((go_at_call 6; exact calm_of _ (HS.out _)))))
          refine wpQuiet_nil ?_
          intro _ hw'
          obtain ⟨u, rfl⟩ := hw'
          go_wp2
          have B2 := (B1.near u).two_set (.bool false) (.int .i64 r2)
          have A2 := below_set_on (below_set_on (u.up A1) (p := ⟨W.heap.size, 0, none⟩) (Nat.le_refl _) (.bool false)) (p := ⟨W.heap.size, 1, none⟩) (Nat.le_refl _) (.int .i64 r2)
          generalize (u.at_.setCell ⟨W.heap.size, 0, none⟩ (.bool false)).setCell ⟨W.heap.size, 1, none⟩ (.int .i64 r2) = w4 at *
          clear c0 c1 cf cl B1 A1 hck hbs hbr
          obtain ⟨c0, c1, cf, cl⟩ := B2.two
          obtain ⟨b', off', e, hbs, hck⟩ := (HI.out.below A2).at_ hlt
          cases e
          rw [HX.out] at hck
          refine wp_region_calm (by kernel_rfl) (by kernel_rfl) ?_
          repeat (go_big_quiet_step ((fail)))
          refine wpQuiet_nil ?_
          intro _ hw'
          obtain ⟨u, rfl⟩ := hw'
          have A3 := u.up A2
          have B3 := B2.near u
          have hck3 := (u.cell (p := ⟨b, off + j, none⟩) hbs).trans hck
          have hbs3 : b < u.at_.heap.size := Nat.lt_of_lt_of_le hbs u.size
          generalize u.at_ = w5 at *
          clear c0 c1 cf cl B2 A2 hck hbs
          obtain ⟨c0, c1, cf, cl⟩ := B3.two
          go_wp2
          refine wp_region_calm (by kernel_rfl) (by kernel_rfl) ?_
          repeat (go_big_quiet_step ((fail)))
          refine wpQuiet_nil ?_
          intro _ hw'
          obtain ⟨u, rfl⟩ := hw'
          go_wp2
          go_roundw
          case rel => exact ⟨j + 1, _, by omega, by go_num, rfl, u.up A3, .inr ⟨by omega, by rw [Nat.add_sub_cancel, HX.out, ← HV.out]; exact B3.near u⟩⟩
          case measure => simp [intOf]; omega
      · obtain ⟨p, hp⟩ : ∃ p, ps.getD (j - 1) false = p := ⟨_, rfl⟩
        obtain ⟨b', off', e, hbs0, hcp⟩ := (HI.out.below A1).at_ (show j - 1 < n by omega)
        cases e
        rw [hp] at h2 h3 HS c1 hcp B1
        have HP := Lib.hid hp
        obtain ⟨n1, n2⟩ := next_is o p x
        rw [h2] at n1 n2
        rw [h3] at n1
        clear h2 h3 hp
        have t2 : decide (0 < (j : Int)) = true := decide_eq_true (by omega)
        have t2' : decide (0 < j) = true := decide_eq_true (by omega)
        have t3 : decide (r2 < 0) = false := decide_eq_false (by rw [n1]; unfold otR; split <;> omega)
        have t4 : decide (1 < r2) = false := decide_eq_false (by rw [n1]; unfold otR; split <;> omega)
        have t5 : (r2 == 0) = (o2 == x) := by rw [n1]; cases o2 <;> cases x <;> decide
        have HV := Lib.hid n1
        clear n1
        cases o2
        · cases o <;> cases p <;> cases x <;> simp at n2
          all_goals
            go_wp2
            refine wp_region_calm_tail 6 (by kernel_rfl) (by kernel_rfl) ?_
            simp only [List.take_succ_cons, List.take_zero, List.drop_succ_cons, List.drop_zero]
            repeat (go_big_quiet_step (((go_at_call 6; exact calm_of _ (HS.out _)))))
            refine wpQuiet_nil ?_
            intro _ hw'
            obtain ⟨u, rfl⟩ := hw'
            go_wp2
            have B2 := (B1.near u).two_set (.bool false) (.int .i64 r2)
            have A2 := below_set_on (below_set_on (u.up A1) (p := ⟨W.heap.size, 0, none⟩) (Nat.le_refl _) (.bool false)) (p := ⟨W.heap.size, 1, none⟩) (Nat.le_refl _) (.int .i64 r2)
            generalize (u.at_.setCell ⟨W.heap.size, 0, none⟩ (.bool false)).setCell ⟨W.heap.size, 1, none⟩ (.int .i64 r2) = w4 at *
            clear c0 c1 cf cl B1 A1 hck hbs hbr hcp hbs0
            obtain ⟨c0, c1, cf, cl⟩ := B2.two
            obtain ⟨b1, off1, e1, hbs, hck⟩ := (HI.out.below A2).at_ hlt
            cases e1
            obtain ⟨b2, off2, e2, hbs0, hcp⟩ := (HI.out.below A2).at_ (show j - 1 < n by omega)
            cases e2
            rw [HX.out] at hck
            rw [HP.out] at hcp
            refine wp_region_calm (by kernel_rfl) (by kernel_rfl) ?_
            repeat (go_big_quiet_step ((fail)))
            refine wpQuiet_nil ?_
            intro _ hw'
            obtain ⟨u, rfl⟩ := hw'
            have A3 := u.up A2
            have B3 := B2.near u
            have hck3 := (u.cell (p := ⟨b, off + j, none⟩) hbs).trans hck
            have hbs3 : b < u.at_.heap.size := Nat.lt_of_lt_of_le hbs u.size
            generalize u.at_ = w5 at *
            clear c0 c1 cf cl B2 A2 hck hbs hcp hbs0
            obtain ⟨c0, c1, cf, cl⟩ := B3.two
            go_wp2
            refine wp_region_calm (by kernel_rfl) (by kernel_rfl) ?_
            repeat (go_big_quiet_step ((fail)))
            refine wpQuiet_nil ?_
            intro _ hw'
            obtain ⟨u, rfl⟩ := hw'
            go_wp2
            go_roundw
            case rel => exact ⟨j + 1, _, by omega, by go_num, rfl, u.up A3, .inr ⟨by omega, by rw [Nat.add_sub_cancel, HX.out, ← HV.out]; exact B3.near u⟩⟩
            case measure => simp [intOf]; omega
        · cases o <;> cases p <;> cases x <;> simp at n2
          all_goals
            go_wp2
            refine wp_region_calm_tail 6 (by kernel_rfl) (by kernel_rfl) ?_
            simp only [List.take_succ_cons, List.take_zero, List.drop_succ_cons, List.drop_zero]
            repeat (go_big_quiet_step (((go_at_call 6; exact calm_of _ (HS.out _)))))
            refine wpQuiet_nil ?_
            intro _ hw'
            obtain ⟨u, rfl⟩ := hw'
            go_wp2
            have B2 := (B1.near u).two_set (.bool true) (.int .i64 r2)
            have A2 := below_set_on (below_set_on (u.up A1) (p := ⟨W.heap.size, 0, none⟩) (Nat.le_refl _) (.bool true)) (p := ⟨W.heap.size, 1, none⟩) (Nat.le_refl _) (.int .i64 r2)
            generalize (u.at_.setCell ⟨W.heap.size, 0, none⟩ (.bool true)).setCell ⟨W.heap.size, 1, none⟩ (.int .i64 r2) = w4 at *
            clear c0 c1 cf cl B1 A1 hck hbs hbr hcp hbs0
            obtain ⟨c0, c1, cf, cl⟩ := B2.two
            obtain ⟨b1, off1, e1, hbs, hck⟩ := (HI.out.below A2).at_ hlt
            cases e1
            obtain ⟨b2, off2, e2, hbs0, hcp⟩ := (HI.out.below A2).at_ (show j - 1 < n by omega)
            cases e2
            rw [HX.out] at hck
            rw [HP.out] at hcp
            refine wp_region_calm (by kernel_rfl) (by kernel_rfl) ?_
            repeat (go_big_quiet_step ((fail)))
            refine wpQuiet_nil ?_
            intro _ hw'
            obtain ⟨u, rfl⟩ := hw'
            have A3 := u.up A2
            have B3 := B2.near u
            have hck3 := (u.cell (p := ⟨b, off + j, none⟩) hbs).trans hck
            have hbs3 : b < u.at_.heap.size := Nat.lt_of_lt_of_le hbs u.size
            generalize u.at_ = w5 at *
            clear c0 c1 cf cl B2 A2 hck hbs hcp hbs0
            obtain ⟨c0, c1, cf, cl⟩ := B3.two
            go_wp2
            refine wp_region_calm (by kernel_rfl) (by kernel_rfl) ?_
            repeat (go_big_quiet_step ((fail)))
            refine wpQuiet_nil ?_
            intro _ hw'
            obtain ⟨u, rfl⟩ := hw'
            go_wp2
            go_roundw
            case rel => exact ⟨j + 1, _, by omega, by go_num, rfl, u.up A3, .inr ⟨by omega, by rw [Nat.add_sub_cancel, HX.out, ← HV.out]; exact B3.near u⟩⟩
            case measure => simp [intOf]; omega
    · obtain rfl : j = n := by omega
      clear hs
      go_wp2_with (fail)
      refine (law18_awake _).mono ?_
      rintro e w3 ⟨rfl, hb⟩
      go_wp2
      all_goals go_ret
      all_goals exact ⟨rfl, below_call A1 hb⟩

theorem walk (W : World) (A : Option Addr) (n c : Nat) (rs : List (List Value)) (hi : Rows [.bool] W A n rs) (hc : n ≤ c) (hr : n * 1 ≤ 140737488351232) :
    Calls Try.prog 4 #[.slice A n c] W fun e W' => e = .returned (.bool true) ∧ Below W.heap.size W W' := by
  by_cases h : 200 < n
  · have t1 : decide (200 < (n : Int)) = true := decide_eq_true (by omega)
    clear hi
    go_enter Try.func4, Try.ntmps4
    go_wp2_with (fail)
    refine (law18_awake _).mono ?_
    rintro e w3 ⟨rfl, hb⟩
    go_wp2
    all_goals go_ret
    all_goals exact ⟨rfl, hb⟩
  · obtain ⟨ps, hp⟩ := Truths.of_rows hi
    exact some_ W A n c ps hp (by omega) hc

theorem lifted (os : Os) (started : os.Started) (H : Type) (enc : TypeId × Value → H) :
    ReturnsInHanded {} Try.checked os 4 .any (Rows.debounceTwiceSpec.pre6 enc Try.prog Try.f4 Rows.debounceTwiceRow.domain false) (Rows.debounceTwiceSpec.post enc Try.prog Try.f4 false true false false) := by
  refine law_lift started (by kernel_rfl) Try.func4 rfl rfl ?_ (by kernel_rfl)
    (ChangeSpec.witness6 (enc := enc) (C := Try.checked) false ⟨#[], #[.slice none 0 0], []⟩ 8 (by kernel_rfl) (by kernel_rfl) (by kernel_rfl) (by kernel_rfl)) ?_
  · intro ds hl
    match ds, hl with
    | [_], _ => exact ⟨rfl, rfl, rfl⟩
  · intro W base args ds p hval hA hlt hwt
    rw [Try.params4] at hA hval hwt
    obtain ⟨v0, vs0, d0, ds0, p0, q0, hargs, rfl, rfl, h0, r0⟩ := trodAll_cons hA
    obtain ⟨rfl, rfl, rfl⟩ := trodAll_nil r0
    obtain rfl : args = #[v0] := by cases args; simp_all
    have wt0 : ∀ n ∈ d0.weights Try.prog 27, n ≤ reachBytes := fun n hn => by
      have := List.all_eq_true.1 hwt n (DataW.weights_mem_each (j := 0) (t := 27) (d := d0) rfl rfl n hn)
      simpa using this
    have lt0 : ∀ x ∈ p0, x.block < W.heap.size := fun x hx => hlt x (by simp [hx])
    obtain ⟨A0, n0, c0, xs0, rfl, hi0, hc0, hr0⟩ := open_rows_arg 5 [.bool] Try.underlying27 (by kernel_rfl) (by kernel_rfl) (by decide) (by kernel_rfl) (hval 0 27 v0 rfl rfl) h0 lt0 wt0
    exact walk W A0 n0 c0 xs0 hi0 hc0 hr0

theorem over : Rows.debounceTwiceRow.holds Try.pinned (OpenSpec.ofChange Rows.debounceTwiceSpec) :=
  OpenClaim.holds_of_wide 4 Try.f4 rfl rfl rfl rfl rfl rfl rfl ⟨rfl, rfl, rfl, rfl, rfl⟩ rfl rfl rfl rfl rfl (by kernel_rfl) Try.func4 (by kernel_rfl)
    (of_decide_eq_true (by kernel_rfl)) (by unfold Func.isWrapper; first | (rw [if_pos (by decide +kernel)]; kernel_rfl) | (rw [if_neg (by decide +kernel)]; exact ⟨rfl, rfl⟩))
    (fun os started H enc _ => lifted os started H enc)

theorem proved : Rows.DebounceTwiceSaid := over
#print axioms proved
end Go.Proofs.Yteminppmegmjoaa.debounceTwice
