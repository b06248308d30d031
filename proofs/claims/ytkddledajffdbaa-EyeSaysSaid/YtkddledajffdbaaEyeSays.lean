/- EyeSays holds of every eye, every tick and every list of lights: the eye and the document's eye say the same. No condition. -/
import Derived.Test.YtkddledajffdbaaLook22
import Derived.Test.YtkddledajffdbaaRef22F
import Derived.Test.YtkddledajffdbaaRef22T
namespace Go.Proofs.Ytkddledajffdbaa.eyeSays
open Go.ChangeShapes Go.WideShapes Go.ChangeAt Go.RowKit
set_option linter.unusedVariables false
set_option linter.unusedSimpArgs false
set_option maxRecDepth 100000

theorem re_any (bg : Bool) (ba : Int) (sh on : Bool) (rn wt ru ra a t2 t3 t4 : Int) (dr : Bool) (ky : Int) (wr : Bool) (bad : Int) (w : World) :
    Calls Try.prog 14 #[.agg #[.bool bg, .int .i64 ba, .bool sh, .bool on, .int .i64 rn, .int .i64 wt, .int .i64 ru, .int .i64 ra], .agg #[.int .i64 a, .int .i64 t2, .int .i64 t3, .int .i64 t4, .bool dr, .int .i64 ky, .bool wr, .int .i64 bad]] w fun e w' => e = .returned (.tuple #[.agg #[.bool true, .int .i64 (eyN (eyB bg ba a) a (eyS bg ba a sh)), .bool (eyS bg ba a sh), .bool (dbO on rn (eyS bg ba a sh)), .int .i64 (dbR on rn (eyS bg ba a sh)), .int .i64 (rfV wt (dbO on rn (eyS bg ba a sh) && !on)), .int .i64 (sgV ru (eyS bg ba a sh)), .int .i64 (raV ra a bad)], .agg #[.bool (rfB wt (dbO on rn (eyS bg ba a sh) && !on)), .bool (eyS bg ba a sh), .bool (decide (12 ≤ sgV ru (eyS bg ba a sh))), .bool (faB (raV ra a bad) bad)]]) ∧ Below w.heap.size w w' := by
  cases bg
  · exact re_step_no ba sh on rn wt ru ra a t2 t3 t4 dr ky wr bad w
  · exact re_step_yes ba sh on rn wt ru ra a t2 t3 t4 dr ky wr bad w
theorem step_says : StepSays := fun e a w => re_any e.bg e.ba e.sh e.on e.rn e.wt e.ru e.ra a 0 0 0 false 0 false 0 w

set_option maxHeartbeats 4000000 in
theorem walk0 (w : World) (bg : Bool) (ba : Int) (sh on : Bool) (rn wt ru ra a t2 t3 t4 : Int) (dr : Bool) (ky : Int) (wr : Bool) (bad : Int) (A : Option Addr) (n c : Nat) (xs : List Int) (hi : Ints w A n xs) (hc : n ≤ c) :
    Calls Try.prog 3 #[.agg #[.bool bg, .int .i64 ba, .bool sh, .bool on, .int .i64 rn, .int .i64 wt, .int .i64 ru, .int .i64 ra], .agg #[.int .i64 a, .int .i64 t2, .int .i64 t3, .int .i64 t4, .bool dr, .int .i64 ky, .bool wr, .int .i64 bad], .slice A n c] w fun e w' => e = .returned (.bool true) ∧ Below w.heap.size w w' := by
  have A0 : Below w.heap.size w w := Below.refl _ _
  by_cases hn : 300 < n
  · have t0 : decide (300 < (n : Int)) = true := decide_eq_true (by omega)
    clear hi
    go_enter Try.func3, Try.ntmps3
    go_wp2_with (go_at_call 12; refine (law22_awake _).mono ?_; rintro e w' ⟨rfl, hb⟩)
    go_ret
    exact ⟨rfl, below_call (by (repeat (first | (with_reducible exact Below.refl _ _) | (with_reducible assumption) | (with_reducible refine Near.up _ ?_) | (with_reducible refine Below.drew ?_) | (with_reducible refine below_alloc_on ?_ _) | (with_reducible refine below_set_on ?_ (by first | (simp; done) | (simp; omega) | omega) _)))) hb⟩
  · have t0 : decide (300 < (n : Int)) = false := decide_eq_false (by omega)
    have HI := Lib.hid hi
    have H1 := Lib.hid (fun w => ey_step bg ba sh on rn wt ru ra a t2 t3 t4 dr ky wr bad w)
    have H2 := Lib.hid (fun w => re_any bg ba sh on rn wt ru ra a t2 t3 t4 dr ky wr bad w)
    generalize eyS bg ba a sh = SH at *
    generalize eyN (eyB bg ba a) a SH = B1 at *
    generalize rfV wt (dbO on rn SH && !on) = WT at *
    generalize rfB wt (dbO on rn SH && !on) = DR at *
    generalize dbR on rn SH = RN at *
    generalize decide (12 ≤ sgV ru SH) = ST at *
    generalize sgV ru SH = RU at *
    generalize faB (raV ra a bad) bad = FA at *
    generalize raV ra a bad = RA at *
    generalize dbO on rn SH = ON at *
    clear hi
    go_enter Try.func3, Try.ntmps3
    go_wp2_with (fail)
    refine (H1.out _).mono ?_
    rintro e w1 ⟨rfl, hb⟩
    have A1 : Below w.heap.size w w1 := below_call (by (repeat (first | (with_reducible exact Below.refl _ _) | (with_reducible assumption) | (with_reducible refine Near.up _ ?_) | (with_reducible refine Below.drew ?_) | (with_reducible refine below_alloc_on ?_ _) | (with_reducible refine below_set_on ?_ (by first | (simp; done) | (simp; omega) | omega) _)))) hb
    have E1 := Box.below (g := w.heap.size) (by (repeat (first | (with_reducible assumption) | (with_reducible exact box_new _ _ _) | ((with_reducible apply box_at); (first | (with_reducible rfl) | (simp <;> omega))) | (with_reducible apply Box.drew) | (with_reducible apply Box.drewN) | (with_reducible apply Box.near) | (with_reducible apply Box.alloc) | ((with_reducible apply box_far); (first | assumption | omega | (simp <;> omega))) | ((with_reducible apply Box.one_set); (with_reducible assumption)) | ((with_reducible apply Box.two_set); (with_reducible assumption)) | ((with_reducible apply Box.three_set); (with_reducible assumption)) | (with_reducible apply Box.set) | (simp only [List.size_toArray, List.length_cons, List.length_nil, Array.size_setIfInBounds] <;> omega))) : Box _ _ #[.bool bg, .int .i64 ba, .bool sh, .bool on, .int .i64 rn, .int .i64 wt, .int .i64 ru, .int .i64 ra]) hb
    have R1 := Box.below (g := w.heap.size + 1) (by (repeat (first | (with_reducible assumption) | (with_reducible exact box_new _ _ _) | ((with_reducible apply box_at); (first | (with_reducible rfl) | (simp <;> omega))) | (with_reducible apply Box.drew) | (with_reducible apply Box.drewN) | (with_reducible apply Box.near) | (with_reducible apply Box.alloc) | ((with_reducible apply box_far); (first | assumption | omega | (simp <;> omega))) | ((with_reducible apply Box.one_set); (with_reducible assumption)) | ((with_reducible apply Box.two_set); (with_reducible assumption)) | ((with_reducible apply Box.three_set); (with_reducible assumption)) | (with_reducible apply Box.set) | (simp only [List.size_toArray, List.length_cons, List.length_nil, Array.size_setIfInBounds] <;> omega))) : Box _ _ #[.int .i64 a, .int .i64 t2, .int .i64 t3, .int .i64 t4, .bool dr, .int .i64 ky, .bool wr, .int .i64 bad]) hb
    clear hb
    obtain ⟨lE, cE, fE⟩ := id E1
    obtain ⟨lR, cR, fR⟩ := id R1
    go_wp2_with (fail)
    refine (H2.out _).mono ?_
    rintro e w2 ⟨rfl, hb⟩
    have A2 : Below w.heap.size w w2 := below_call (by (repeat (first | (with_reducible exact Below.refl _ _) | (with_reducible assumption) | (with_reducible refine Near.up _ ?_) | (with_reducible refine Below.drew ?_) | (with_reducible refine below_alloc_on ?_ _) | (with_reducible refine below_set_on ?_ (by first | (simp; done) | (simp; omega) | omega) _)))) hb
    have N2 := Box.below (g := w1.heap.size) (by (repeat (first | (with_reducible assumption) | (with_reducible exact box_new _ _ _) | ((with_reducible apply box_at); (first | (with_reducible rfl) | (simp <;> omega))) | (with_reducible apply Box.drew) | (with_reducible apply Box.drewN) | (with_reducible apply Box.near) | (with_reducible apply Box.alloc) | ((with_reducible apply box_far); (first | assumption | omega | (simp <;> omega))) | ((with_reducible apply Box.one_set); (with_reducible assumption)) | ((with_reducible apply Box.two_set); (with_reducible assumption)) | ((with_reducible apply Box.three_set); (with_reducible assumption)) | (with_reducible apply Box.set) | (simp only [List.size_toArray, List.length_cons, List.length_nil, Array.size_setIfInBounds] <;> omega))) : Box _ _ #[.bool true, .int .i64 B1, .bool SH, .bool ON, .int .i64 RN, .int .i64 WT, .int .i64 RU, .int .i64 RA]) hb
    have S2 := Box.below (g := w1.heap.size + 1) (by (repeat (first | (with_reducible assumption) | (with_reducible exact box_new _ _ _) | ((with_reducible apply box_at); (first | (with_reducible rfl) | (simp <;> omega))) | (with_reducible apply Box.drew) | (with_reducible apply Box.drewN) | (with_reducible apply Box.near) | (with_reducible apply Box.alloc) | ((with_reducible apply box_far); (first | assumption | omega | (simp <;> omega))) | ((with_reducible apply Box.one_set); (with_reducible assumption)) | ((with_reducible apply Box.two_set); (with_reducible assumption)) | ((with_reducible apply Box.three_set); (with_reducible assumption)) | (with_reducible apply Box.set) | (simp only [List.size_toArray, List.length_cons, List.length_nil, Array.size_setIfInBounds] <;> omega))) : Box _ _ #[.bool DR, .bool SH, .bool ST, .bool FA]) hb
    have w12 : w1.heap.size + 1 < w2.heap.size := S2.1
    have wp : w.heap.size ≤ w1.heap.size := A1.size
    have wq : w.heap.size ≤ w1.heap.size + 1 := by omega
    have pq : w1.heap.size ≠ w1.heap.size + 1 := by omega
    clear hb E1 R1 lE cE fE lR cR fR A1 H1 H2
    generalize w1.heap.size + 1 = q at *
    generalize w1.heap.size = p at *
    obtain ⟨lN, cN, fN⟩ := id N2
    obtain ⟨lS, cS, fS⟩ := id S2
    go_wp2_with (fail)
    have A3 := below_alloc_on (below_alloc_on A2 (.cells #[.bool true, .int .i64 B1, .bool SH, .bool ON, .int .i64 RN, .int .i64 WT, .int .i64 RU, .int .i64 RA] 25)) (.cells #[.bool DR, .bool SH, .bool ST, .bool FA] 31)
    clear N2 S2 lN cN fN lS cS fS A2
    generalize (w2.alloc (.cells #[.bool true, .int .i64 B1, .bool SH, .bool ON, .int .i64 RN, .int .i64 WT, .int .i64 RU, .int .i64 RA] 25)).alloc (.cells #[.bool DR, .bool SH, .bool ST, .bool FA] 31) = w3 at *
    refine (ey_look A n c xs w3 (HI.out.below A3) (by omega)).mono ?_
    rintro e w4 ⟨g, rfl, S4, hb⟩
    have A4 := below_call A3 hb
    have HS4 := Lib.hid S4
    clear hb A3 S4
    go_wp2_with (fail)
    refine (re_look step_says A n c xs w4 (HI.out.below A4) (by omega)).mono ?_
    rintro e w5 ⟨B, d, rfl, hd, S5, hb⟩
    have A5 := below_call A4 hb
    have HA := Lib.hid ((SeesA.of_sees HS4.out).below hb)
    have HB := Lib.hid S5
    clear hb A4 S5 HS4
    go_wp2_with (fail)
    refine (same_sees (by omega) HA.out HB.out).mono ?_
    rintro e w6 ⟨rfl, hb⟩
    have A6 := below_call A5 hb
    clear hb A5 HA HB
    go_wp2_with (go_at_call 12; refine (law22_awake _).mono ?_; rintro e w' ⟨rfl, hb⟩)
    go_ret
    exact ⟨rfl, below_call A6 hb⟩

theorem walk (w : World) (bg : Bool) (ba : Int) (_ : (Lit.int .i64 ba).wf = true) (sh on : Bool) (rn : Int) (_ : (Lit.int .i64 rn).wf = true) (wt : Int) (_ : (Lit.int .i64 wt).wf = true) (ru : Int) (_ : (Lit.int .i64 ru).wf = true) (ra : Int) (_ : (Lit.int .i64 ra).wf = true) (a : Int) (_ : (Lit.int .i64 a).wf = true) (t2 : Int) (_ : (Lit.int .i64 t2).wf = true) (t3 : Int) (_ : (Lit.int .i64 t3).wf = true) (t4 : Int) (_ : (Lit.int .i64 t4).wf = true) (dr : Bool) (ky : Int) (_ : (Lit.int .i64 ky).wf = true) (wr : Bool) (bad : Int) (_ : (Lit.int .i64 bad).wf = true) (A : Option Addr) (n c : Nat) (xs : List Int) (hi : Ints w A n xs) (hc : n ≤ c) (hr : n * 8 ≤ 140737488351232) (wx : ∀ x ∈ xs, (Lit.int .i64 x).wf = true) :
    Calls Try.prog 3 #[.agg #[.bool bg, .int .i64 ba, .bool sh, .bool on, .int .i64 rn, .int .i64 wt, .int .i64 ru, .int .i64 ra], .agg #[.int .i64 a, .int .i64 t2, .int .i64 t3, .int .i64 t4, .bool dr, .int .i64 ky, .bool wr, .int .i64 bad], .slice A n c] w fun e w' => e = .returned (.bool true) ∧ Below w.heap.size w w' :=
  walk0 w bg ba sh on rn wt ru ra a t2 t3 t4 dr ky wr bad A n c xs hi hc

set_option maxRecDepth 100000 in
theorem lifted (os : Os) (started : os.Started) (H : Type) (enc : TypeId × Value → H) :
    ReturnsInHanded {} Try.checked os 3 .any (Rows.eyeSaysSpec.pre6 enc Try.prog Try.f3 Rows.eyeSaysRow.domain false) (Rows.eyeSaysSpec.post enc Try.prog Try.f3 false true false false) := by
  refine law_lift started (by kernel_rfl) Try.func3 rfl rfl ?_ (by kernel_rfl)
    (ChangeSpec.witness6 (enc := enc) (C := Try.checked) false ⟨#[], #[.agg #[.bool false, .int .i64 0, .bool false, .bool false, .int .i64 0, .int .i64 0, .int .i64 0, .int .i64 0], .agg #[.int .i64 0, .int .i64 0, .int .i64 0, .int .i64 0, .bool false, .int .i64 0, .bool false, .int .i64 0], .slice none 0 0], []⟩ 8 (by kernel_rfl) (by kernel_rfl) (by kernel_rfl) (by kernel_rfl)) ?_
  · intro ds hl
    match ds, hl with
    | [_, _, _], _ => exact ⟨rfl, rfl, rfl⟩
  · intro W base args ds p hval hA hlt hwt
    rw [Try.params3] at hA hval hwt
    obtain ⟨v0, vs0, d0, ds0, p0, q0, hargs, rfl, rfl, h0, r0⟩ := trodAll_cons hA
    obtain ⟨v1, vs1, d1, ds1, p1, q1, rfl, rfl, rfl, h1, r1⟩ := trodAll_cons r0
    obtain ⟨v2, vs2, d2, ds2, p2, q2, rfl, rfl, rfl, h2, r2⟩ := trodAll_cons r1
    obtain ⟨rfl, rfl, rfl⟩ := trodAll_nil r2
    obtain rfl : args = #[v0, v1, v2] := by cases args; simp_all
    obtain ⟨cs0, rfl, l0, k0⟩ := open_leaves 5 [.bool, .int .i64, .bool, .bool, .int .i64, .int .i64, .int .i64, .int .i64] (by kernel_rfl) (by kernel_rfl) (hval 0 25 v0 rfl rfl) h0
    match cs0, l0, k0 with
    | [y0_0, y0_1, y0_2, y0_3, y0_4, y0_5, y0_6, y0_7], _, k0 =>
    obtain ⟨x0_0, e0_0⟩ : leafIs (.bool) y0_0 := k0 0 _ rfl
    subst e0_0
    obtain ⟨x0_1, e0_1, w0_1⟩ : leafIs (.int .i64) y0_1 := k0 1 _ rfl
    subst e0_1
    obtain ⟨x0_2, e0_2⟩ : leafIs (.bool) y0_2 := k0 2 _ rfl
    subst e0_2
    obtain ⟨x0_3, e0_3⟩ : leafIs (.bool) y0_3 := k0 3 _ rfl
    subst e0_3
    obtain ⟨x0_4, e0_4, w0_4⟩ : leafIs (.int .i64) y0_4 := k0 4 _ rfl
    subst e0_4
    obtain ⟨x0_5, e0_5, w0_5⟩ : leafIs (.int .i64) y0_5 := k0 5 _ rfl
    subst e0_5
    obtain ⟨x0_6, e0_6, w0_6⟩ : leafIs (.int .i64) y0_6 := k0 6 _ rfl
    subst e0_6
    obtain ⟨x0_7, e0_7, w0_7⟩ : leafIs (.int .i64) y0_7 := k0 7 _ rfl
    subst e0_7
    obtain ⟨cs1, rfl, l1, k1⟩ := open_leaves 5 [.int .i64, .int .i64, .int .i64, .int .i64, .bool, .int .i64, .bool, .int .i64] (by kernel_rfl) (by kernel_rfl) (hval 1 27 v1 rfl rfl) h1
    match cs1, l1, k1 with
    | [y1_0, y1_1, y1_2, y1_3, y1_4, y1_5, y1_6, y1_7], _, k1 =>
    obtain ⟨x1_0, e1_0, w1_0⟩ : leafIs (.int .i64) y1_0 := k1 0 _ rfl
    subst e1_0
    obtain ⟨x1_1, e1_1, w1_1⟩ : leafIs (.int .i64) y1_1 := k1 1 _ rfl
    subst e1_1
    obtain ⟨x1_2, e1_2, w1_2⟩ : leafIs (.int .i64) y1_2 := k1 2 _ rfl
    subst e1_2
    obtain ⟨x1_3, e1_3, w1_3⟩ : leafIs (.int .i64) y1_3 := k1 3 _ rfl
    subst e1_3
    obtain ⟨x1_4, e1_4⟩ : leafIs (.bool) y1_4 := k1 4 _ rfl
    subst e1_4
    obtain ⟨x1_5, e1_5, w1_5⟩ : leafIs (.int .i64) y1_5 := k1 5 _ rfl
    subst e1_5
    obtain ⟨x1_6, e1_6⟩ : leafIs (.bool) y1_6 := k1 6 _ rfl
    subst e1_6
    obtain ⟨x1_7, e1_7, w1_7⟩ : leafIs (.int .i64) y1_7 := k1 7 _ rfl
    subst e1_7
    have wt2 : ∀ n ∈ d2.weights Try.prog 28, n ≤ reachBytes := fun n hn => by
      have := List.all_eq_true.1 hwt n (DataW.weights_mem_each (j := 2) (t := 28) (d := d2) rfl rfl n hn)
      simpa using this
    have lt2 : ∀ x ∈ p2, x.block < W.heap.size := fun x hx => hlt x (by simp [hx])
    obtain ⟨A2, n2, c2, xs2, rfl, hi2, hc2, hr2, w2⟩ := open_ints_arg Try.underlying28 Try.underlying3 (by kernel_rfl) (by kernel_rfl) (hval 2 28 v2 rfl rfl) h2 lt2 wt2
    exact walk W x0_0 x0_1 w0_1 x0_2 x0_3 x0_4 w0_4 x0_5 w0_5 x0_6 w0_6 x0_7 w0_7 x1_0 w1_0 x1_1 w1_1 x1_2 w1_2 x1_3 w1_3 x1_4 x1_5 w1_5 x1_6 x1_7 w1_7 A2 n2 c2 xs2 hi2 hc2 hr2 w2

theorem over : Rows.eyeSaysRow.holds Try.pinned (OpenSpec.ofChange Rows.eyeSaysSpec) :=
  OpenClaim.holds_of_wide 3 Try.f3 rfl rfl rfl rfl rfl rfl rfl ⟨rfl, rfl, rfl, rfl, rfl⟩ rfl rfl rfl rfl rfl (by kernel_rfl) Try.func3 (by kernel_rfl)
    (of_decide_eq_true (by kernel_rfl)) (by unfold Func.isWrapper; first | (rw [if_pos (by decide +kernel)]; kernel_rfl) | (rw [if_neg (by decide +kernel)]; exact ⟨rfl, rfl⟩))
    (fun os started H enc _ => lifted os started H enc)

theorem proved : Rows.EyeSaysSaid := over
#print axioms proved
end Go.Proofs.Ytkddledajffdbaa.eyeSays
