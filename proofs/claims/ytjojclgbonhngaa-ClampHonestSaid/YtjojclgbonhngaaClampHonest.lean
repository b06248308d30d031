/- ClampHonest holds of every list of wishes, slips and shuts: a clamp whose encoder tells where the motor was is never stalled. No condition. -/
import Derived.Test.YtjojclgbonhngaaLaw14
import Derived.Test.YtjojclgbonhngaaLeaf
import Derived.Test.YtjojclgbonhngaaFan
import Derived.Test.YtjojclgbonhngaaNums
namespace Go.Proofs.Ytjojclgbonhngaa.clampHonest
open Go.ChangeShapes Go.WideShapes Go.ChangeAt Go.RowKit
set_option linter.unusedVariables false
attribute [local go_sem] cell_set_ite Near.cell Near.frozen

theorem sub_small {a b : Int} (a0 : -1000 ≤ a) (a1 : a ≤ 1000) (b0 : -1000 ≤ b) (b1 : b ≤ 1000) : subV a b = a - b := by
  unfold subV
  rw [clV_in (n := a) (by omega), clV_in (n := b) (by omega), clV_in (by omega)]
theorem ap_home {P K x : Int} (h : 0 < K) : apV 0 P K x = 0 := by unfold apV; rw [if_pos h]
theorem ap_near {P K s : Int} (p0 : 0 ≤ P) (p1 : P ≤ 300) (s0 : -6 ≤ s) (s1 : s ≤ 6) : apV 0 P K (P + s) = 0 := by
  unfold apV
  split
  · rfl
  · rw [if_pos]
    unfold neB
    rw [sub_small (by omega) (by omega) (by omega) (by omega)]
    exact decide_eq_true (by omega)

/-- What is there at place j of a row of truths. -/
theorem bool_at {W wr : World} {A : Option Addr} {n : Nat} {rs : List (List Value)} (h : Rows [.bool] W A n rs) (hA : Below W.heap.size W wr) {j : Nat} (hj : j < n) :
    ∃ b off x, A = some ⟨b, off, none⟩ ∧ b < W.heap.size ∧ wr.cell? ⟨b, off + j, none⟩ = some (.bool x) := by
  obtain ⟨b, off, e, hbs, hc⟩ := h.2.2 (by omega)
  obtain ⟨_, hk⟩ := h.2.1 j hj
  obtain ⟨x, hx⟩ := hk 0 .bool rfl
  refine ⟨b, off, x, e, hbs, (hA.cell (p := ⟨b, off + j, none⟩) hbs).trans ?_⟩
  have := hc j hj 0 (by simp)
  rw [hx] at this
  simpa using this
theorem num_at {W wr : World} {k : IntKind} {A : Option Addr} {n : Nat} {ss : List Int} (h : Nums k W A n ss) (hA : Below W.heap.size W wr) {j : Nat} (hj : j < n) :
    ∃ b off, A = some ⟨b, off, none⟩ ∧ b < W.heap.size ∧ wr.cell? ⟨b, off + j, none⟩ = some (.int k (ss.getD j 0)) := by
  obtain ⟨b, off, e, hbs, hc⟩ := h.at_ hj
  exact ⟨b, off, e, hbs, (hA.cell (p := ⟨b, off + j, none⟩) hbs).trans hc⟩

set_option maxRecDepth 100000 in
theorem early (W : World) (A B C : Option Addr) (n cn m cm l cl : Nat) (bn : n ≤ 9223372036854775807) (bm : m ≤ 9223372036854775807) (bl : l ≤ 9223372036854775807)
    (hc : 500 < n ∨ (n ≤ 500 ∧ 0 < n ∧ m = 0) ∨ (n ≤ 500 ∧ 0 < n ∧ 0 < m ∧ l = 0)) :
    Calls Try.prog 5 #[.slice A n cn, .slice B m cm, .slice C l cl] W fun e W' => e = .returned (.bool true) ∧ Below W.heap.size W W' := by
  rcases hc with h1 | ⟨h1, h2, rfl⟩ | ⟨h1, h2, h3, rfl⟩
  · have t1 : decide (500 < (n : Int)) = true := decide_eq_true (by omega)
    clear h1
    go_enter Try.func5, Try.ntmps5
    go_wp2_with (go_at_call 13; refine (law14_awake _).mono ?_; rintro e w' ⟨rfl, hb⟩)
    all_goals go_ret
    all_goals exact ⟨rfl, hb⟩
  · have t1 : decide (500 < (n : Int)) = false := decide_eq_false (by omega)
    have t2 : decide (0 < (n : Int)) = true := decide_eq_true (by omega)
    clear h1
    go_enter Try.func5, Try.ntmps5
    go_wp2_with (go_at_call 13; refine (law14_awake _).mono ?_; rintro e w' ⟨rfl, hb⟩)
    all_goals go_ret
    all_goals exact ⟨rfl, hb⟩
  · have t1 : decide (500 < (n : Int)) = false := decide_eq_false (by omega)
    have t2 : decide (0 < (n : Int)) = true := decide_eq_true (by omega)
    have t3 : ((m : Int) == 0) = false := by simp; omega
    clear h1
    go_enter Try.func5, Try.ntmps5
    go_wp2_with (go_at_call 13; refine (law14_awake _).mono ?_; rintro e w' ⟨rfl, hb⟩)
    all_goals go_ret
    all_goals exact ⟨rfl, hb⟩

set_option maxRecDepth 100000 in
theorem none_ (W : World) (A B C : Option Addr) (cn m cm l cl : Nat) (bm : m ≤ 9223372036854775807) (bl : l ≤ 9223372036854775807) :
    Calls Try.prog 5 #[.slice A 0 cn, .slice B m cm, .slice C l cl] W fun e W' => e = .returned (.bool true) ∧ Below W.heap.size W W' := by
  have A0 : Below W.heap.size W W := Below.refl _ _
  go_enter Try.func5, Try.ntmps5
  go_wp2_with (fail)
  refine (cl_start _).mono ?_
  rintro e w1 ⟨rfl, hb⟩
  have A1 := below_call A0 hb
  clear hb A0
  go_wp2
  go_loopw [33] (fun i wr => i = .int .i64 0 ∧ Below W.heap.size W wr) (fun _ _ => 0)
  case atStart => exact ⟨rfl, below_alloc_on A1 _⟩
  case round =>
    obtain ⟨rfl, A2⟩ := hrel
    go_wp2_with (fail)
    refine (law14_awake _).mono ?_
    rintro e w2 ⟨rfl, hb⟩
    go_wp2
    all_goals go_ret
    all_goals exact ⟨rfl, below_call A2 hb⟩

set_option maxRecDepth 100000 in
set_option maxHeartbeats 4000000 in
theorem some_ (W : World) (A B C : Option Addr) (n cn m cm l cl : Nat) (bm : m ≤ 9223372036854775807) (bl : l ≤ 9223372036854775807) (ss zs : List Int) (rs : List (List Value)) (hi : Nums .u16 W A n ss) (hz : Nums .i8 W B m zs) (hs : Rows [.bool] W C l rs)
    (wx : ∀ x ∈ ss, (Lit.int .u16 x).wf = true) (wz : ∀ x ∈ zs, (Lit.int .i8 x).wf = true) (h1 : n ≤ 500) (h2 : 0 < n) (h3 : 0 < m) (h4 : 0 < l) (cb : n ≤ cn ∧ m ≤ cm ∧ l ≤ cl) :
    Calls Try.prog 5 #[.slice A n cn, .slice B m cm, .slice C l cl] W fun e W' => e = .returned (.bool true) ∧ Below W.heap.size W W' := by
  have HI := Lib.hid hi
  have HZ := Lib.hid hz
  have HS := Lib.hid hs
  have HX := Lib.hid (show ∀ j : Nat, j < n → 0 ≤ ss.getD j 0 ∧ ss.getD j 0 ≤ 65535 from fun j hj => by
    have hj' : j < ss.length := by have := hi.1; omega
    have h := wx (ss.getD j 0) (by simp [List.getD, List.getElem?_eq_getElem hj'])
    simp only [Lit.wf, IntKind.min, IntKind.max, IntKind.signed, IntKind.bits, Bool.and_eq_true] at h
    simpa using h)
  have HY := Lib.hid (show ∀ j : Nat, j < m → -128 ≤ zs.getD j 0 ∧ zs.getD j 0 ≤ 127 from fun j hj => by
    have hj' : j < zs.length := by have := hz.1; omega
    have h := wz (zs.getD j 0) (by simp [List.getD, List.getElem?_eq_getElem hj'])
    simp only [Lit.wf, IntKind.min, IntKind.max, IntKind.signed, IntKind.bits, Bool.and_eq_true] at h
    simpa using h)
  have A0 : Below W.heap.size W W := Below.refl _ _
  have t1 : decide (500 < (n : Int)) = false := decide_eq_false (by omega)
  have t2 : decide (0 < (n : Int)) = true := decide_eq_true (by omega)
  have t3 : ((m : Int) == 0) = false := by simp; omega
  have t4 : ((l : Int) == 0) = false := by simp; omega
  clear hi hz hs wx wz
  go_enter Try.func5, Try.ntmps5
  go_wp2_with (fail)
  refine (cl_start _).mono ?_
  rintro e w1 ⟨rfl, hb⟩
  have A1 := below_call A0 hb
  have g0 := A1.size
  clear hb A0
  have B1 := box_new w1 #[.int .i64 300, .int .i64 320, .int .i64 0, .int .i64 0] 25
  have A2 := below_alloc_on A1 (.cells #[.int .i64 300, .int .i64 320, .int .i64 0, .int .i64 0] 25)
  go_wp2
  generalize w1.alloc (.cells #[.int .i64 300, .int .i64 320, .int .i64 0, .int .i64 0] 25) = w2 at *
  generalize w1.heap.size = g at *
  clear A1
  go_loopw [33] (fun i wr => ∃ (j : Nat) (P K O : Int), j ≤ n ∧ i = .int .i64 j ∧ 0 ≤ P ∧ P ≤ 300 ∧ Below W.heap.size W wr ∧ Box wr g #[.int .i64 P, .int .i64 K, .int .i64 0, .int .i64 O]) (fun i _ => n - (intOf i).toNat)
  case atStart => exact ⟨0, 300, 320, 0, Nat.zero_le _, rfl, by omega, by omega, A2, B1⟩
  case round =>
    clear A2 B1
    obtain ⟨j, P, K, O, hj, rfl, p0, p1, A1, B1⟩ := hrel
    obtain ⟨b0, b1, b2, b3, bf, bl⟩ := B1.four
    by_cases hlt : j < n
    · obtain ⟨b, off, rfl, hbs, hck⟩ := num_at HI.out A1 hlt
      obtain ⟨s0, s1⟩ := HX.out j hlt
      have hm : j % m < m := Nat.mod_lt _ h3
      have hl : j % l < l := Nat.mod_lt _ h4
      obtain ⟨d, doff, rfl, hds, hdk⟩ := num_at HZ.out A1 hm
      obtain ⟨z0, z1⟩ := HY.out _ hm
      obtain ⟨f, foff, x, rfl, hfs, hfk⟩ := bool_at HS.out A1 hl
      have hmi : (j : Int) % (m : Int) = ((j % m : Nat) : Int) := by simp
      have hli : (j : Int) % (l : Int) = ((j % l : Nat) : Int) := by simp
      have hmt : Int.tmod (j : Int) (m : Int) = ((j % m : Nat) : Int) := by rw [Int.tmod_eq_emod_of_nonneg (by omega)]; simp
      have hlt2 : Int.tmod (j : Int) (l : Int) = ((j % l : Nat) : Int) := by rw [Int.tmod_eq_emod_of_nonneg (by omega)]; simp
      generalize ss.getD j 0 = s at *
      generalize zs.getD (j % m) 0 = z at *
      generalize j % m = qm at *
      generalize j % l = ql at *
      have m1 := Int.tmod_lt_of_pos z (b := 7) (by omega)
      have m2 := Int.lt_tmod_of_pos z (b := 7) (by omega)
      have hz8 : IntKind.i8.wrap (z.tmod 7) = z.tmod 7 := by unfold IntKind.wrap; simp [IntKind.signed, IntKind.bits]; omega
      have hw : IntKind.i64.wrap (P + z.tmod 7) = P + z.tmod 7 := by unfold IntKind.wrap; simp [IntKind.signed, IntKind.bits]; omega
      have hwq : IntKind.i64.wrap (qm : Int) = qm := by unfold IntKind.wrap; simp [IntKind.signed, IntKind.bits]; omega
      have hwl : IntKind.i64.wrap (ql : Int) = ql := by unfold IntKind.wrap; simp [IntKind.signed, IntKind.bits]; omega
      have nz1 : ((m : Int) == 0) = false := by simp; omega
      have nz2 : ((l : Int) == 0) = false := by simp; omega
      have hbr : b < wr.heap.size := Nat.lt_of_lt_of_le hbs A1.size
      have hdr : d < wr.heap.size := Nat.lt_of_lt_of_le hds A1.size
      have hfr : f < wr.heap.size := Nat.lt_of_lt_of_le hfs A1.size
      have e9 : slB 0 = false := by decide
      have hb1 : ∀ v, decide (stP P K v < 0) = false := fun v => decide_eq_false (by have := (st_bd P K v).1; omega)
      have hb2 : ∀ v, decide (300 < stP P K v) = false := fun v => decide_eq_false (by have := (st_bd P K v).2.1; omega)
      have HS1 := Lib.hid (show ∀ v w, 0 < K → Calls Try.prog 7 #[.agg #[.int .i64 P, .int .i64 K, .int .i64 0, .int .i64 O], .int .i64 v, .bool x, .int .i64 z] w fun e w' =>
        e = .returned (.tuple #[.agg #[.int .i64 (stP P K (waV v x)), .int .i64 (stH K), .int .i64 0, .int .i64 (waV v x)], .bool false]) ∧ Below w.heap.size w w' from fun v w hK => by
          have := cl_step P K 0 O v x z w
          rwa [ap_home hK, e9] at this)
      have HS2 := Lib.hid (show ∀ v w, Calls Try.prog 7 #[.agg #[.int .i64 P, .int .i64 K, .int .i64 0, .int .i64 O], .int .i64 v, .bool x, .int .i64 (P + z.tmod 7)] w fun e w' =>
        e = .returned (.tuple #[.agg #[.int .i64 (stP P K (waV v x)), .int .i64 (stH K), .int .i64 0, .int .i64 (waV v x)], .bool false]) ∧ Below w.heap.size w w' from fun v w => by
          have := cl_step P K 0 O v x (P + z.tmod 7) w
          rwa [ap_near p0 p1 (by omega) (by omega), e9] at this)
      clear e9
      go_wp2
      refine wp_region_calm (by kernel_rfl) (by kernel_rfl) ?_
      repeat (go_big_quiet_step ((fail)))
      refine wpQuiet_nil ?_
      intro _ hw'
      obtain ⟨u, rfl⟩ := hw'
      have A2 := u.up A1
      have B2 := B1.near u
      have ck2 := (u.cell (p := ⟨b, off + j, none⟩) hbr).trans hck
      have dk2 := (u.cell (p := ⟨d, doff + qm, none⟩) hdr).trans hdk
      have fk2 := (u.cell (p := ⟨f, foff + ql, none⟩) hfr).trans hfk
      have hbr2 : b < u.at_.heap.size := Nat.lt_of_lt_of_le hbs A2.size
      have hdr2 : d < u.at_.heap.size := Nat.lt_of_lt_of_le hds A2.size
      have hfr2 : f < u.at_.heap.size := Nat.lt_of_lt_of_le hfs A2.size
      generalize u.at_ = w3 at *
      clear hck hdk hfk hbr hdr hfr b0 b1 b2 b3 bf bl A1 B1
      obtain ⟨b0, b1, b2, b3, bf, bl⟩ := B2.four
      by_cases hK : 0 < K
      · have t5 := decide_eq_true hK
        go_wp2
        refine wp_region_calm_fan 16 _ _ rfl rfl (by kernel_rfl) (by kernel_rfl) (fun _ _ _ _ h => h) (fun _ _ _ _ h => h) ?_
        simp only [List.take_succ_cons, List.take_zero, List.drop_succ_cons, List.drop_zero]
        repeat (go_big_quiet_step (((go_at_call 7; exact calm_of _ (HS1.out _ _ hK)))))
        refine wpQuiet_nil ?_
        apply Exists.intro
        apply Exists.intro
        refine ⟨Or.inl ⟨rfl, fun w => ?_⟩, Or.inl ⟨rfl, fun w => ?_⟩, ?_⟩
        · go_simp
          rfl
        · go_simp
          rfl
        intro _ hw'
        obtain ⟨u, rfl⟩ := hw'
        have A3 := u.up A2
        have B3 := B2.near u
        clear b0 b1 b2 b3 bf bl ck2 dk2 fk2 hbr2 hdr2 hfr2
        obtain ⟨b0, b1, b2, b3, bf, bl⟩ := B3.four
        go_simp
        go_wp2
        go_roundw
        case rel => exact ⟨j + 1, _, _, _, by omega, by go_num, (st_bd P K _).1, (st_bd P K _).2.1, below_set_on (below_set_on (below_set_on (below_set_on A3 (p := ⟨g, 0, none⟩) g0 _) (p := ⟨g, 1, none⟩) g0 _) (p := ⟨g, 2, none⟩) g0 _) (p := ⟨g, 3, none⟩) g0 _, B3.four_set _ _ _ _⟩
        case measure => simp [intOf]; omega
      · have t5 := decide_eq_false hK
        go_wp2
        refine wp_region_calm_fan 16 _ _ rfl rfl (by kernel_rfl) (by kernel_rfl) (fun _ _ _ _ h => h) (fun _ _ _ _ h => h) ?_
        simp only [List.take_succ_cons, List.take_zero, List.drop_succ_cons, List.drop_zero]
        repeat (go_big_quiet_step (((go_at_call 7; exact calm_of _ (HS2.out _ _)))))
        refine wpQuiet_nil ?_
        apply Exists.intro
        apply Exists.intro
        refine ⟨Or.inl ⟨rfl, fun w => ?_⟩, Or.inl ⟨rfl, fun w => ?_⟩, ?_⟩
        · go_simp
          rfl
        · go_simp
          rfl
        intro _ hw'
        obtain ⟨u, rfl⟩ := hw'
        have A3 := u.up A2
        have B3 := B2.near u
        clear b0 b1 b2 b3 bf bl ck2 dk2 fk2 hbr2 hdr2 hfr2
        obtain ⟨b0, b1, b2, b3, bf, bl⟩ := B3.four
        go_simp
        go_wp2
        go_roundw
        case rel => exact ⟨j + 1, _, _, _, by omega, by go_num, (st_bd P K _).1, (st_bd P K _).2.1, below_set_on (below_set_on (below_set_on (below_set_on A3 (p := ⟨g, 0, none⟩) g0 _) (p := ⟨g, 1, none⟩) g0 _) (p := ⟨g, 2, none⟩) g0 _) (p := ⟨g, 3, none⟩) g0 _, B3.four_set _ _ _ _⟩
        case measure => simp [intOf]; omega
    · obtain rfl : j = n := by omega
      go_wp2_with (fail)
      refine (law14_awake _).mono ?_
      rintro e w3 ⟨rfl, hb⟩
      go_wp2
      all_goals go_ret
      all_goals exact ⟨rfl, below_call A1 hb⟩

theorem walk (W : World) (A : Option Addr) (n cn : Nat) (ss : List Int) (hi : Nums .u16 W A n ss) (hc : n ≤ cn) (hr : n * 2 ≤ 140737488351232) (wx : ∀ x ∈ ss, (Lit.int .u16 x).wf = true)
    (B : Option Addr) (m cm : Nat) (zs : List Int) (hz : Nums .i8 W B m zs) (hc2 : m ≤ cm) (hr2 : m * 1 ≤ 140737488351232) (wz : ∀ x ∈ zs, (Lit.int .i8 x).wf = true)
    (C : Option Addr) (l cl : Nat) (rs : List (List Value)) (hs : Rows [.bool] W C l rs) (hc3 : l ≤ cl) (hr3 : l * 1 ≤ 140737488351232) :
    Calls Try.prog 5 #[.slice A n cn, .slice B m cm, .slice C l cl] W fun e W' => e = .returned (.bool true) ∧ Below W.heap.size W W' := by
  by_cases h1 : 500 < n
  · exact early W A B C n cn m cm l cl (by omega) (by omega) (by omega) (.inl h1)
  by_cases h2 : n = 0
  · subst h2
    exact none_ W A B C cn m cm l cl (by omega) (by omega)
  by_cases h3 : m = 0
  · exact early W A B C n cn m cm l cl (by omega) (by omega) (by omega) (.inr (.inl ⟨by omega, by omega, h3⟩))
  by_cases h4 : l = 0
  · exact early W A B C n cn m cm l cl (by omega) (by omega) (by omega) (.inr (.inr ⟨by omega, by omega, by omega, h4⟩))
  exact some_ W A B C n cn m cm l cl (by omega) (by omega) ss zs rs hi hz hs wx wz (by omega) (by omega) (by omega) (by omega) ⟨hc, hc2, hc3⟩

theorem lifted (os : Os) (started : os.Started) (H : Type) (enc : TypeId × Value → H) :
    ReturnsInHanded {} Try.checked os 5 .any (Rows.clampHonestSpec.pre6 enc Try.prog Try.f5 Rows.clampHonestRow.domain false) (Rows.clampHonestSpec.post enc Try.prog Try.f5 false true false false) := by
  refine law_lift started (by kernel_rfl) Try.func5 rfl rfl ?_ (by kernel_rfl)
    (ChangeSpec.witness6 (enc := enc) (C := Try.checked) false ⟨#[], #[.slice none 0 0, .slice none 0 0, .slice none 0 0], []⟩ 8 (by kernel_rfl) (by kernel_rfl) (by kernel_rfl) (by kernel_rfl)) ?_
  · intro ds hl
    match ds, hl with
    | [_, _, _], _ => exact ⟨rfl, rfl, rfl⟩
  · intro W base args ds p hval hA hlt hwt
    rw [Try.params5] at hA hval hwt
    obtain ⟨v0, vs0, d0, ds0, p0, q0, hargs, rfl, rfl, h0, r0⟩ := trodAll_cons hA
    obtain ⟨v1, vs1, d1, ds1, p1, q1, rfl, rfl, rfl, h1, r1⟩ := trodAll_cons r0
    obtain ⟨v2, vs2, d2, ds2, p2, q2, rfl, rfl, rfl, h2, r2⟩ := trodAll_cons r1
    obtain ⟨rfl, rfl, rfl⟩ := trodAll_nil r2
    obtain rfl : args = #[v0, v1, v2] := by cases args; simp_all
    have wt0 : ∀ n ∈ d0.weights Try.prog 35, n ≤ reachBytes := fun n hn => by
      have := List.all_eq_true.1 hwt n (DataW.weights_mem_each (j := 0) (t := 35) (d := d0) rfl rfl n hn)
      simpa using this
    have lt0 : ∀ x ∈ p0, x.block < W.heap.size := fun x hx => hlt x (by simp [hx])
    obtain ⟨A0, n0, c0, xs0, rfl, hi0, hc0, hr0, w0⟩ := open_nums_arg Try.underlying35 Try.underlying39 (by kernel_rfl) (by kernel_rfl) (hval 0 35 v0 rfl rfl) h0 lt0 wt0
    have wt1 : ∀ n ∈ d1.weights Try.prog 36, n ≤ reachBytes := fun n hn => by
      have := List.all_eq_true.1 hwt n (DataW.weights_mem_each (j := 1) (t := 36) (d := d1) rfl rfl n hn)
      simpa using this
    have lt1 : ∀ x ∈ p1, x.block < W.heap.size := fun x hx => hlt x (by simp [hx])
    obtain ⟨A1, n1, c1, xs1, rfl, hi1, hc1, hr1, w1⟩ := open_nums_arg Try.underlying36 Try.underlying38 (by kernel_rfl) (by kernel_rfl) (hval 1 36 v1 rfl rfl) h1 lt1 wt1
    have wt2 : ∀ n ∈ d2.weights Try.prog 37, n ≤ reachBytes := fun n hn => by
      have := List.all_eq_true.1 hwt n (DataW.weights_mem_each (j := 2) (t := 37) (d := d2) rfl rfl n hn)
      simpa using this
    have lt2 : ∀ x ∈ p2, x.block < W.heap.size := fun x hx => hlt x (by simp [hx])
    obtain ⟨A2, n2, c2, xs2, rfl, hi2, hc2, hr2⟩ := open_rows_arg 5 [.bool] Try.underlying37 (by kernel_rfl) (by kernel_rfl) (by decide) (by kernel_rfl) (hval 2 37 v2 rfl rfl) h2 lt2 wt2
    exact walk W A0 n0 c0 xs0 hi0 hc0 hr0 w0 A1 n1 c1 xs1 hi1 hc1 hr1 w1 A2 n2 c2 xs2 hi2 hc2 hr2

theorem over : Rows.clampHonestRow.holds Try.pinned (OpenSpec.ofChange Rows.clampHonestSpec) :=
  OpenClaim.holds_of_wide 5 Try.f5 rfl rfl rfl rfl rfl rfl rfl ⟨rfl, rfl, rfl, rfl, rfl⟩ rfl rfl rfl rfl rfl (by kernel_rfl) Try.func5 (by kernel_rfl)
    (of_decide_eq_true (by kernel_rfl)) (by unfold Func.isWrapper; first | (rw [if_pos (by decide +kernel)]; kernel_rfl) | (rw [if_neg (by decide +kernel)]; exact ⟨rfl, rfl⟩))
    (fun os started H enc _ => lifted os started H enc)

theorem proved : Rows.ClampHonestSaid := over
#print axioms proved
end Go.Proofs.Ytjojclgbonhngaa.clampHonest
