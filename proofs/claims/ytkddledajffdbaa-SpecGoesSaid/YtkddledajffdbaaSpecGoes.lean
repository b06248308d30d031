/- SpecGoes holds of every two lists of lights: what comes behind changes no drop ahead; drops rise; Between adds up. No condition. -/
import Derived.Test.YtkddledajffdbaaGoesN
import Derived.Test.YtkddledajffdbaaArr
namespace Go.Proofs.Ytkddledajffdbaa.specGoes
open Go.ChangeShapes Go.WideShapes Go.ChangeAt Go.RowKit
set_option linter.unusedVariables false
set_option linter.unusedSimpArgs false
set_option maxRecDepth 100000
attribute [local go_sem] cell_set_ite Near.cell Near.frozen

set_option maxHeartbeats 4000000 in
theorem walk (w : World) (A : Option Addr) (n c : Nat) (xs : List Int) (hi : Ints w A n xs) (hc : n ≤ c) (hr : n * 8 ≤ 140737488351232) (wx : ∀ x ∈ xs, (Lit.int .i64 x).wf = true)
    (A2 : Option Addr) (m c2 : Nat) (ys : List Int) (hi2 : Ints w A2 m ys) (hc2 : m ≤ c2) (hr2 : m * 8 ≤ 140737488351232) (wy : ∀ x ∈ ys, (Lit.int .i64 x).wf = true) (a : Int) (wa : (Lit.int .u8 a).wf = true) (b : Int) (wb : (Lit.int .u8 b).wf = true) (e : Int) (we : (Lit.int .u8 e).wf = true) :
    Calls Try.prog 9 #[.slice A n c, .slice A2 m c2, .agg #[.int .u8 a, .int .u8 b, .int .u8 e]] w fun e w' => e = .returned (.bool true) ∧ Below w.heap.size w w' := by
  simp only [Lit.wf, IntKind.min, IntKind.max, IntKind.signed, IntKind.bits, Bool.and_eq_true] at wa wb we
  simp at wa wb we
  by_cases hn : 150 < n
  · have t0 : decide (150 < (n : Int)) = true := decide_eq_true (by omega)
    have t0n : decide (150 < n) = true := decide_eq_true hn
    clear hi hi2
    go_enter Try.func9, Try.ntmps9
    go_wp2_with (go_at_call 18; refine (law23_awake _).mono ?_; rintro e w' ⟨rfl, hb⟩)
    go_ret
    exact ⟨rfl, below_call (by (repeat (first | (with_reducible exact Below.refl _ _) | (with_reducible assumption) | (with_reducible refine Near.up _ ?_) | (with_reducible refine Below.drew ?_) | (with_reducible refine below_alloc_on ?_ _) | (with_reducible refine below_set_on ?_ (by first | (simp; done) | (simp; omega) | omega) _)))) hb⟩
  by_cases hm : 150 < m
  · have t0 : decide (150 < (n : Int)) = false := decide_eq_false (by omega)
    have t0n : decide (150 < n) = false := decide_eq_false hn
    have t1 : decide (150 < (m : Int)) = true := decide_eq_true (by omega)
    have t1n : decide (150 < m) = true := decide_eq_true hm
    clear hi hi2
    go_enter Try.func9, Try.ntmps9
    go_wp2_with (go_at_call 18; refine (law23_awake _).mono ?_; rintro e w' ⟨rfl, hb⟩)
    go_ret
    exact ⟨rfl, below_call (by (repeat (first | (with_reducible exact Below.refl _ _) | (with_reducible assumption) | (with_reducible refine Near.up _ ?_) | (with_reducible refine Below.drew ?_) | (with_reducible refine below_alloc_on ?_ _) | (with_reducible refine below_set_on ?_ (by first | (simp; done) | (simp; omega) | omega) _)))) hb⟩
  have t0 : decide (150 < (n : Int)) = false := decide_eq_false (by omega)
  have t0n : decide (150 < n) = false := decide_eq_false hn
  have t1 : decide (150 < (m : Int)) = false := decide_eq_false (by omega)
  have t1n : decide (150 < m) = false := decide_eq_false hm
  have HI := Lib.hid hi
  have HJ := Lib.hid hi2
  have X0 := Lib.hid (box_new w #[.int .u8 a, .int .u8 b, .int .u8 e] 56)
  have B0 := below_alloc_on (Below.refl w.heap.size w) (.cells #[.int .u8 a, .int .u8 b, .int .u8 e] 56)
  have HI0 := Lib.hid (hi.below B0)
  have HJ0 := Lib.hid (hi2.below B0)
  clear hi hi2 wx wy
  go_enter Try.func9, Try.ntmps9
  go_wp2_with (at_builtin; refine app_ints rfl _ _ rfl rfl rfl HI0.out (World.ownsRow_nil _ (w.heap.size + 1) _ _) (by simp) (by omega) ?_)
  generalize w.alloc (.cells #[.int .u8 a, .int .u8 b, .int .u8 e] 56) = w0 at *
  intro v1 w1 ho hg
  have A1 : Below w.heap.size w w1 := B0.grown hg B0.size (fun k hk => by cases hk)
  have X1 := Lib.hid (X0.out.of_block (hg.block _ X0.out.1 (fun h => by cases h)))
  have HJ1 := Lib.hid (HJ.out.below A1)
  have HO := Lib.hid ho
  have s1 : w.heap.size + 1 ≤ w1.heap.size := X1.out.1
  clear ho hg HI0 HJ0 X0 B0
  go_wp2_with (at_builtin; refine app_ints rfl _ _ rfl rfl rfl HJ1.out HO.out s1 (by omega) ?_)
  intro v2 w2 ho hg
  have A2' : Below w.heap.size w w2 := A1.grown hg A1.size (fun k hk => by have := (HO.out.lt k hk).1; omega)
  have X2 := Lib.hid (X1.out.of_block (hg.block _ X1.out.1 (fun h => by have := (HO.out.lt _ h.symm).1; omega)))
  rw [← List.map_append] at ho
  obtain ⟨P, d, rfl, hpd⟩ := own_form ho
  have HP := Lib.hid (Ints.of_own ho (by rw [List.length_append, HI.out.1, HJ.out.1]))
  clear ho hg HO X1 A1 s1 HJ1
  have hxl : xs.length = n := HI.out.1
  have dm := drops_more (xs ++ ys) n (n + m) (by omega)
  rw [dropsL_app n (by omega)] at dm
  have di := drops_in (xs ++ ys) (n + m)
  have dr := drops_rise (xs ++ ys) (n + m)
  have pi := drops_in xs n
  have hM0 := dropsL_len (xs ++ ys) (n + m)
  have HSD := Lib.hid (sp_drops P (n + m) d (xs ++ ys))
  have HSX := Lib.hid (sp_drops A n c xs)
  generalize dropsL (xs ++ ys) (n + m) = ds at *
  generalize dropsL xs n = es at *
  clear hxl
  obtain ⟨N, hN⟩ : ∃ N, n + m = N := ⟨_, rfl⟩
  have nN : n ≤ N := by omega
  have N3 : N ≤ 300 := by omega
  rw [hN] at HP HSD di hM0 hpd ⊢
  clear hN
  go_wp2_with (fail)
  refine (HSX.out w2 (HI.out.below A2') (by omega)).mono ?_
  rintro x w3 ⟨B, d3, rfl, hb3, hx3, hb⟩
  have A3 := below_call A2' hb
  have X3 := Lib.hid (X2.out.below hb)
  have HP3 := Lib.hid (HP.out.below hb)
  have HB3 := Lib.hid hx3
  clear hb hx3 A2' X2 HP HSX HI HJ
  go_wp2_with (fail)
  refine (HSD.out w3 HP3.out (by omega)).mono ?_
  rintro x w4 ⟨R, d4, rfl, hb4, hx4, hb⟩
  have A4 := below_call A3 hb
  have X4 := Lib.hid (X3.out.below hb)
  have HB4 := Lib.hid (HB3.out.below hb)
  have HR := Lib.hid hx4
  clear hb hx4 A3 X3 HP3 HB3 HSD
  obtain ⟨hqM, hpre, hbeh⟩ := dm
  have hbt : btN ds 0 n ds.length = es.length := by
    rw [btN_first ds n es.length ds.length (fun i hi => by rw [hpre i hi]; exact pi i hi) hbeh ds.length (Nat.le_refl _)]
    split <;> omega
  have HQ := Lib.hid (show Ints w4 R es.length es from ⟨rfl, fun h0 => by
    obtain ⟨b, off, e, hl, hc⟩ := HR.out.2 (by omega)
    exact ⟨b, off, e, hl, fun i hi => by rw [hc i (by omega), hpre i hi]⟩⟩)
  have HDI := Lib.hid di
  have HDR := Lib.hid dr
  have HBT := Lib.hid hbt
  clear di dr hbt hpre hbeh pi
  have hME : ds.length = ds.length := rfl
  generalize hM : ds.length = M at *
  generalize hq : es.length = q at *
  have t2 : decide ((M : Int) < q) = false := decide_eq_false (by omega)
  have t2n : decide (M < q) = false := decide_eq_false (by omega)
  go_wp2_with (fail)
  have hsb := sp_between R M d4 ds 0 n w4 HR.out (by omega)
  rw [HBT.out] at hsb
  refine hsb.mono ?_
  rintro x w5 ⟨rfl, rfl⟩
  clear hsb
  go_wp2_with (fail)
  have hq4 := law4_ints R B q d4 q d3 es es w4 HQ.out HB4.out (by omega) (by omega)
  rw [eqL_refl] at hq4
  refine hq4.mono ?_
  rintro x w6 ⟨rfl, t, rfl⟩
  have R6 := HR.out.below (below_drewN (Below.refl w4.heap.size w4) t)
  have X6 := X4.out.drewN t
  have A6 := below_drewN A4 t
  have HMM := Lib.hid hM
  clear hq4 A4 X4 HR HB4 HQ hM t2 t2n hq
  generalize w4.drewN t = w6 at *
  have HR6 := Lib.hid R6
  have HX6 := Lib.hid X6
  clear R6 X6
  go_wp2
  go_loopg [57] M (fun gk i wr => ∃ k : Nat, k ≤ M ∧ gk = M - k ∧ i = .int .i64 k ∧ Below w.heap.size w wr ∧ Ints wr R M ds ∧ Box wr w.heap.size #[.int .u8 a, .int .u8 b, .int .u8 e])
  case atStart => exact ⟨0, by omega, rfl, rfl, A6, HR6.out, HX6.out⟩
  case round =>
    clear A6 HR6 HX6
    obtain ⟨k, hk, rfl, rfl, A6, R6, X6⟩ := hrel
    have HR6 := Lib.hid R6
    have HX6 := Lib.hid X6
    by_cases hlt : k < M
    · obtain ⟨bb, off, rfl, lb, hcell⟩ := R6.2 (by omega)
      have c0 := hcell k hlt
      obtain ⟨z0, zN⟩ := HDI.out k hlt
      by_cases hk0 : k = 0
      · have tk : decide ((0 : Int) < (k : Int)) = false := decide_eq_false (by omega)
        have tkn : decide (0 < k) = false := decide_eq_false (by omega)
        clear hcell R6 X6 HBT HDI HDR hk0
        generalize ds.getD k 0 = z at *
        have tz : decide (z < 0) = false := decide_eq_false (by omega)
        have tN : decide ((N : Int) ≤ z) = false := decide_eq_false (by omega)
        go_wp2
        refine wp_region_calm (by kernel_rfl) (by kernel_rfl) ?_
        repeat (go_big_quiet_step ((fail)))
        refine wpQuiet_nil ?_
        intro _ hw'
        obtain ⟨u, rfl⟩ := hw'
        have A7 := below_call A6 u.below
        have R7 := Lib.hid (HR6.out.below u.below)
        have X7 := Lib.hid (HX6.out.near u)
        clear c0 lb A6 HR6 HX6 tk tkn tz tN
        generalize u.at_ = w7 at *
        go_wp2
        go_roundg (M - (k + 1))
        case measure => omega
        case rel => exact ⟨k + 1, by omega, by omega, by go_num, A7, R7.out, X7.out⟩
      · obtain ⟨j, rfl⟩ : ∃ j, k = j + 1 := ⟨k - 1, by omega⟩
        have c1 := hcell j (by omega)
        have hlt2 := HDR.out j hlt
        have tk : decide ((0 : Int) < (j : Int) + 1) = true := decide_eq_true (by omega)
        have tkn : decide (0 < j + 1) = true := decide_eq_true (by omega)
        clear hcell R6 X6 HBT HDI HDR hk0
        generalize ds.getD (j + 1) 0 = z at *
        generalize ds.getD j 0 = y at *
        have tz : decide (z < 0) = false := decide_eq_false (by omega)
        have tN : decide ((N : Int) ≤ z) = false := decide_eq_false (by omega)
        have ty : decide (z ≤ y) = false := decide_eq_false (by omega)
        rw [show ((j + 1 : Nat) : Int) = (j : Int) + 1 from rfl]
        go_wp2
        have wj : IntKind.i64.wrap ((j : Int) + 1 - 1) = (j : Int) := by rw [IntKind.wrap_i64]; omega
        refine wp_region_calm (by kernel_rfl) (by kernel_rfl) ?_
        repeat (go_big_quiet_step ((fail)))
        refine wpQuiet_nil ?_
        intro _ hw'
        obtain ⟨u, rfl⟩ := hw'
        have A7 := below_call A6 u.below
        have R7 := Lib.hid (HR6.out.below u.below)
        have X7 := Lib.hid (HX6.out.near u)
        clear c0 c1 lb A6 HR6 HX6 tk tkn tz tN ty wj
        generalize u.at_ = w7 at *
        go_wp2
        go_roundg (M - (j + 1 + 1))
        case measure => omega
        case rel => exact ⟨j + 1 + 1, by omega, by omega, by go_num, A7, R7.out, X7.out⟩
    · obtain rfl : k = M := by omega
      obtain ⟨c0, c1, c2, fr, lt⟩ := X6.three
      have hadd := btN_add ds a (a + b) (a + b + e) (by omega) (by omega) k
      have q1 := btN_le ds a (a + b) k
      have q2 := btN_le ds (a + b) (a + b + e) k
      have H1 := Lib.hid (fun w h => sp_between R k d4 ds a (a + b + e) w h (by omega))
      have H2 := Lib.hid (fun w h => sp_between R k d4 ds a (a + b) w h (by omega))
      have H3 := Lib.hid (fun w h => sp_between R k d4 ds (a + b) (a + b + e) w h (by omega))
      generalize btN ds a (a + b + e) k = p at *
      generalize btN ds a (a + b) k = p1 at *
      generalize btN ds (a + b) (a + b + e) k = p2 at *
      subst hadd
      have hk3 : k ≤ 300 := by omega
      clear R6 X6 HBT HDI HDR
      go_wp2
      have wab : IntKind.i64.wrap (a + b) = a + b := by rw [IntKind.wrap_i64]; omega
      have wabe : IntKind.i64.wrap (a + b + e) = a + b + e := by rw [IntKind.wrap_i64]; omega
      refine wp_region_calm (by kernel_rfl) (by kernel_rfl) ?_
      repeat (go_big_quiet_step ((fail)))
      refine wpQuiet_nil ?_
      intro _ hw'
      obtain ⟨u, rfl⟩ := hw'
      have A7 := below_call A6 u.below
      have R7 := Lib.hid (HR6.out.below u.below)
      clear c0 c1 c2 fr lt HR6 HX6 A6 wab wabe
      generalize u.at_ = w7 at *
      have tE : (((p1 + p2 : Nat) : Int) == (p1 : Int) + p2) = true := by simp
      go_wp2_with (first | (go_at_call 29; with_reducible refine (H1.out _ R7.out).mono ?_; rintro x w' ⟨rfl, rfl⟩) | (go_at_call 29; with_reducible refine (H2.out _ R7.out).mono ?_; rintro x w' ⟨rfl, rfl⟩) | (go_at_call 29; with_reducible refine (H3.out _ R7.out).mono ?_; rintro x w' ⟨rfl, rfl⟩) | (go_at_call 18; refine (law23_awake _).mono ?_; rintro x w' ⟨rfl, hb'⟩))
      go_ret
      exact ⟨rfl, below_call A7 hb'⟩

set_option maxRecDepth 100000 in
theorem lifted (os : Os) (started : os.Started) (H : Type) (enc : TypeId × Value → H) :
    ReturnsInHanded {} Try.checked os 9 .any (Rows.specGoesSpec.pre6 enc Try.prog Try.f9 Rows.specGoesRow.domain false) (Rows.specGoesSpec.post enc Try.prog Try.f9 false true false false) := by
  refine law_lift started (by kernel_rfl) Try.func9 rfl rfl ?_ (by kernel_rfl)
    (ChangeSpec.witness6 (enc := enc) (C := Try.checked) false ⟨#[], #[.slice none 0 0, .slice none 0 0, .agg #[.int .u8 0, .int .u8 0, .int .u8 0]], []⟩ 8 (by kernel_rfl) (by kernel_rfl) (by kernel_rfl) (by kernel_rfl)) ?_
  · intro ds hl
    match ds, hl with
    | [_, _, _], _ => exact ⟨rfl, rfl, rfl⟩
  · intro W base args ds p hval hA hlt hwt
    rw [Try.params9] at hA hval hwt
    obtain ⟨v0, vs0, d0, ds0, p0, q0, hargs, rfl, rfl, h0, r0⟩ := trodAll_cons hA
    obtain ⟨v1, vs1, d1, ds1, p1, q1, rfl, rfl, rfl, h1, r1⟩ := trodAll_cons r0
    obtain ⟨v2, vs2, d2, ds2, p2, q2, rfl, rfl, rfl, h2, r2⟩ := trodAll_cons r1
    obtain ⟨rfl, rfl, rfl⟩ := trodAll_nil r2
    obtain rfl : args = #[v0, v1, v2] := by cases args; simp_all
    have wt0 : ∀ n ∈ d0.weights Try.prog 28, n ≤ reachBytes := fun n hn => by
      have := List.all_eq_true.1 hwt n (DataW.weights_mem_each (j := 0) (t := 28) (d := d0) rfl rfl n hn)
      simpa using this
    have lt0 : ∀ x ∈ p0, x.block < W.heap.size := fun x hx => hlt x (by simp [hx])
    obtain ⟨A0, n0, c0, xs0, rfl, hi0, hc0, hr0, w0⟩ := open_ints_arg Try.underlying28 Try.underlying3 (by kernel_rfl) (by kernel_rfl) (hval 0 28 v0 rfl rfl) h0 lt0 wt0
    have wt1 : ∀ n ∈ d1.weights Try.prog 28, n ≤ reachBytes := fun n hn => by
      have := List.all_eq_true.1 hwt n (DataW.weights_mem_each (j := 1) (t := 28) (d := d1) rfl rfl n hn)
      simpa using this
    have lt1 : ∀ x ∈ p1, x.block < W.heap.size := fun x hx => hlt x (by simp [hx])
    obtain ⟨A1, n1, c1, xs1, rfl, hi1, hc1, hr1, w1⟩ := open_ints_arg Try.underlying28 Try.underlying3 (by kernel_rfl) (by kernel_rfl) (hval 1 28 v1 rfl rfl) h1 lt1 wt1
    obtain ⟨xs2, rfl, l2, w2⟩ := open_int_cells Try.underlying56 Try.underlying5 (by kernel_rfl) (by kernel_rfl) (hval 2 56 v2 rfl rfl) h2
    match xs2, l2, w2 with
    | [x2_0, x2_1, x2_2], _, w2 =>
    exact walk W A0 n0 c0 xs0 hi0 hc0 hr0 w0 A1 n1 c1 xs1 hi1 hc1 hr1 w1 x2_0 (w2 _ (by simp)) x2_1 (w2 _ (by simp)) x2_2 (w2 _ (by simp))

theorem over : Rows.specGoesRow.holds Try.pinned (OpenSpec.ofChange Rows.specGoesSpec) :=
  OpenClaim.holds_of_wide 9 Try.f9 rfl rfl rfl rfl rfl rfl rfl ⟨rfl, rfl, rfl, rfl, rfl⟩ rfl rfl rfl rfl rfl (by kernel_rfl) Try.func9 (by kernel_rfl)
    (of_decide_eq_true (by kernel_rfl)) (by unfold Func.isWrapper; first | (rw [if_pos (by decide +kernel)]; kernel_rfl) | (rw [if_neg (by decide +kernel)]; exact ⟨rfl, rfl⟩))
    (fun os started H enc _ => lifted os started H enc)

theorem proved : Rows.SpecGoesSaid := over
#print axioms proved
end Go.Proofs.Ytkddledajffdbaa.specGoes
