/- BeamParts holds of every two lists of ticks: ticks that were no streams, with a clear one between, are none; what is one stays one, whatever is ahead, and behind. No condition. -/
import Derived.Test.YtgfioiclhoiobaaLaw20
namespace Go.Proofs.Ytgfioiclhoiobaa.beamParts
open Go.ChangeShapes Go.WideShapes Go.ChangeAt Go.RowKit
set_option linter.unusedVariables false

set_option maxRecDepth 100000 in
set_option maxHeartbeats 2000000 in
theorem some_ (W : World) (A B : Option Addr) (n c m d : Nat) (xs ys : List Bool) (ha : Truths W A n xs) (hb : Truths W B m ys) (hn : n ≤ 100) (hm : m ≤ 100) :
    Calls Try.prog 5 #[.slice A n c, .slice B m d] W fun e W' => e = .returned (.bool true) ∧ Below W.heap.size W W' := by
  have la := ha.1
  have lb := hb.1
  subst la
  subst lb
  have HA := Lib.hid ha
  have HB := Lib.hid hb
  have t1 : decide (100 < (xs.length : Int)) = false := decide_eq_false (by omega)
  have t2 : decide (100 < (ys.length : Int)) = false := decide_eq_false (by omega)
  have HS1 := Lib.hid (str_apart xs ys (by omega) (by omega))
  have HS2 := Lib.hid (str_joined xs ys (by omega) (by omega))
  clear ha hb
  go_enter Try.func5, Try.ntmps5
  go_wp2_with (at_builtin; refine app_truths rfl _ _ rfl rfl rfl HA.out (World.ownsRow_nil _ W.heap.size _ _) (Nat.le_refl _) (by omega) ?_)
  intro v1 w1 ho1 hg1
  have G1 : GrownT W xs v1 w1 := by simpa using GrownT.more (GrownT.nil W) (zs := xs) (by simpa using ho1) hg1
  have HG1 := Lib.hid G1
  clear ho1 hg1 G1
  go_wp2_with (at_builtin; refine app_truth rfl _ _ rfl _ rfl rfl HG1.out.2.1 HG1.out.2.2.size (by omega) ?_)
  intro v2 w2 ho2 hg2
  have G2 := HG1.out.next ho2 hg2
  obtain ⟨L0, hL0⟩ : ∃ L0, xs ++ [false] = L0 := ⟨_, rfl⟩
  have l0 : L0.length = xs.length + 1 := by rw [← hL0]; simp
  rw [hL0] at G2
  have HL0 := Lib.hid hL0
  have HG2 := Lib.hid G2
  have l0' : L0.length ≤ 101 := by omega
  have HLL := Lib.hid l0
  clear ho2 hg2 G2 HG1 hL0 l0
  go_wp2_with (at_builtin; refine app_truths rfl _ _ rfl rfl rfl (HB.out.below HG2.out.2.2) HG2.out.2.1 HG2.out.2.2.size (by omega) ?_)
  intro v3 w3 ho3 hg3
  have G3 := HG2.out.more ho3 hg3
  obtain ⟨L1, hL1⟩ : ∃ L1, L0 ++ ys = L1 := ⟨_, rfl⟩
  rw [hL1] at G3
  have HL1 := Lib.hid hL1
  obtain ⟨P3, d3, rfl, _, hT3⟩ := G3.form
  have A3 := G3.2.2
  have HT3 := Lib.hid hT3
  clear ho3 hg3 G3 HG2 hL1 hT3 l0'
  go_wp2_with (at_builtin; refine app_truths rfl _ _ rfl rfl rfl (HA.out.below A3) (World.ownsRow_nil _ w3.heap.size _ _) (Nat.le_refl _) (by omega) ?_)
  intro v4 w4 ho4 hg4
  have G4 : GrownT w3 xs v4 w4 := by simpa using GrownT.more (GrownT.nil w3) (zs := xs) (by simpa using ho4) hg4
  have HG4 := Lib.hid G4
  clear ho4 hg4 G4
  go_wp2_with (at_builtin; refine app_truths rfl _ _ rfl rfl rfl ((HB.out.below A3).below HG4.out.2.2) HG4.out.2.1 HG4.out.2.2.size (by omega) ?_)
  intro v5 w5 ho5 hg5
  have G5 := HG4.out.more ho5 hg5
  obtain ⟨L2, hL2⟩ : ∃ L2, xs ++ ys = L2 := ⟨_, rfl⟩
  rw [hL2] at G5
  have HL2 := Lib.hid hL2
  obtain ⟨P5, d5, rfl, _, hT5⟩ := G5.form
  have A5 : Below W.heap.size W w5 := Below.trans A3 (G5.2.2.mono A3.size)
  have S1 : strB L1 L1.length = (strB xs xs.length || strB ys ys.length) := by
    rw [← HL1.out, ← HL0.out, ← HS1.out, show xs ++ [false] ++ ys = xs ++ false :: ys by simp, show (xs ++ false :: ys).length = xs.length + 1 + ys.length by simp; omega]
  have S2 : (strB xs xs.length || strB ys ys.length) = true → strB L2 L2.length = true := fun h => by
    rw [← HL2.out]
    have := HS2.out h
    simpa using this
  have b1 : L1.length ≤ 9223372036854775807 := by rw [← HL1.out]; simp; have := HLL.out; omega
  have b2 : L2.length ≤ 9223372036854775807 := by rw [← HL2.out]; simp; omega
  have H1 := Lib.hid (fun x (h : At w5 x) => l20_stream (c := d3) w5 x (HT3.out.below G5.2.2) b1 h)
  have H2 := Lib.hid (fun x (h : At w5 x) => l20_stream (c := d5) w5 x hT5 b2 h)
  have HA2 := Lib.hid (fun x (h : At w5 x) => l20_stream (c := c) w5 x (HA.out.below A5) (by omega) h)
  have HB2 := Lib.hid (fun x (h : At w5 x) => l20_stream (c := d) w5 x (HB.out.below A5) (by omega) h)
  rw [S1] at H1
  have hA := At.refl w5
  have HA5 := Lib.hid A5
  clear S1 hT5 G5 ho5 hg5 HG4 hL2 A5 A3 HS1 HS2 t1 t2 b1 b2
  generalize strB xs xs.length = q1 at *
  generalize strB ys ys.length = q2 at *
  generalize strB L2 L2.length = q3 at *
  have HS := Lib.hid S2
  clear S2
  cases q1 <;> cases q2
  · go_wp2_with (first
      | (go_at_call 9; ((with_reducible refine (HA2.out _ (by assumption)).mono ?_); rintro e w' ⟨rfl, hA1⟩))
      | (go_at_call 9; ((with_reducible refine (HB2.out _ (by assumption)).mono ?_); rintro e w' ⟨rfl, hA2⟩))
      | (go_at_call 9; ((with_reducible refine (H1.out _ (by assumption)).mono ?_); rintro e w' ⟨rfl, hA3⟩))
      | (go_at_call 6; refine (law20_awake _).mono ?_; rintro e w' ⟨rfl, hb⟩; have hA5 := At.below (W := w5) (by assumption) hb))
    all_goals go_ret
    all_goals exact ⟨rfl, Below.trans HA5.out (Below.mono hA5 HA5.out.size)⟩
  all_goals
    obtain rfl : q3 = true := HS.out rfl
    go_wp2_with (first
      | (go_at_call 9; ((with_reducible refine (HA2.out _ (by assumption)).mono ?_); rintro e w' ⟨rfl, hA1⟩))
      | (go_at_call 9; ((with_reducible refine (HB2.out _ (by assumption)).mono ?_); rintro e w' ⟨rfl, hA2⟩))
      | (go_at_call 9; ((with_reducible refine (H1.out _ (by assumption)).mono ?_); rintro e w' ⟨rfl, hA3⟩))
      | (go_at_call 9; ((with_reducible refine (H2.out _ (by assumption)).mono ?_); rintro e w' ⟨rfl, hA4⟩))
      | (go_at_call 6; refine (law20_awake _).mono ?_; rintro e w' ⟨rfl, hb⟩; have hA5 := At.below (W := w5) (by assumption) hb))
    all_goals go_ret
    all_goals exact ⟨rfl, Below.trans HA5.out (Below.mono hA5 HA5.out.size)⟩

theorem walk (W : World) (A : Option Addr) (n c : Nat) (rs : List (List Value)) (hi : Rows [.bool] W A n rs) (hc : n ≤ c) (hr : n * 1 ≤ 140737488351232)
    (B : Option Addr) (m d : Nat) (ss : List (List Value)) (hj : Rows [.bool] W B m ss) (hd : m ≤ d) (hr2 : m * 1 ≤ 140737488351232) :
    Calls Try.prog 5 #[.slice A n c, .slice B m d] W fun e W' => e = .returned (.bool true) ∧ Below W.heap.size W W' := by
  by_cases h : 100 < n ∨ 100 < m
  · clear hi hj
    by_cases h1 : 100 < n
    · have t1 : decide (100 < (n : Int)) = true := decide_eq_true (by omega)
      go_enter Try.func5, Try.ntmps5
      go_wp2_with (go_at_call 6; refine (law20_awake _).mono ?_; rintro e w' ⟨rfl, hb⟩)
      all_goals go_ret
      all_goals exact ⟨rfl, hb⟩
    · have t1 : decide (100 < (n : Int)) = false := decide_eq_false (by omega)
      have t2 : decide (100 < (m : Int)) = true := decide_eq_true (by omega)
      go_enter Try.func5, Try.ntmps5
      go_wp2_with (go_at_call 6; refine (law20_awake _).mono ?_; rintro e w' ⟨rfl, hb⟩)
      all_goals go_ret
      all_goals exact ⟨rfl, hb⟩
  · obtain ⟨ps, hp⟩ := Truths.of_rows hi
    obtain ⟨qs, hq⟩ := Truths.of_rows hj
    exact some_ W A B n c m d ps qs hp hq (by omega) (by omega)

theorem lifted (os : Os) (started : os.Started) (H : Type) (enc : TypeId × Value → H) :
    ReturnsInHanded {} Try.checked os 5 .any (Rows.beamPartsSpec.pre6 enc Try.prog Try.f5 Rows.beamPartsRow.domain false) (Rows.beamPartsSpec.post enc Try.prog Try.f5 false true false false) := by
  refine law_lift started (by kernel_rfl) Try.func5 rfl rfl ?_ (by kernel_rfl)
    (ChangeSpec.witness6 (enc := enc) (C := Try.checked) false ⟨#[], #[.slice none 0 0, .slice none 0 0], []⟩ 8 (by kernel_rfl) (by kernel_rfl) (by kernel_rfl) (by kernel_rfl)) ?_
  · intro ds hl
    match ds, hl with
    | [_, _], _ => exact ⟨rfl, rfl, rfl⟩
  · intro W base args ds p hval hA hlt hwt
    rw [Try.params5] at hA hval hwt
    obtain ⟨v0, vs0, d0, ds0, p0, q0, hargs, rfl, rfl, h0, r0⟩ := trodAll_cons hA
    obtain ⟨v1, vs1, d1, ds1, p1, q1, rfl, rfl, rfl, h1, r1⟩ := trodAll_cons r0
    obtain ⟨rfl, rfl, rfl⟩ := trodAll_nil r1
    obtain rfl : args = #[v0, v1] := by cases args; simp_all
    have wt0 : ∀ n ∈ d0.weights Try.prog 22, n ≤ reachBytes := fun n hn => by
      have := List.all_eq_true.1 hwt n (DataW.weights_mem_each (j := 0) (t := 22) (d := d0) rfl rfl n hn)
      simpa using this
    have lt0 : ∀ x ∈ p0, x.block < W.heap.size := fun x hx => hlt x (by simp [hx])
    obtain ⟨A0, n0, c0, xs0, rfl, hi0, hc0, hr0⟩ := open_rows_arg 5 [.bool] Try.underlying22 (by kernel_rfl) (by kernel_rfl) (by decide) (by kernel_rfl) (hval 0 22 v0 rfl rfl) h0 lt0 wt0
    have wt1 : ∀ n ∈ d1.weights Try.prog 22, n ≤ reachBytes := fun n hn => by
      have := List.all_eq_true.1 hwt n (DataW.weights_mem_each (j := 1) (t := 22) (d := d1) rfl rfl n hn)
      simpa using this
    have lt1 : ∀ x ∈ p1, x.block < W.heap.size := fun x hx => hlt x (by simp [hx])
    obtain ⟨A1, n1, c1, xs1, rfl, hi1, hc1, hr1⟩ := open_rows_arg 5 [.bool] Try.underlying22 (by kernel_rfl) (by kernel_rfl) (by decide) (by kernel_rfl) (hval 1 22 v1 rfl rfl) h1 lt1 wt1
    exact walk W A0 n0 c0 xs0 hi0 hc0 hr0 A1 n1 c1 xs1 hi1 hc1 hr1

theorem over : Rows.beamPartsRow.holds Try.pinned (OpenSpec.ofChange Rows.beamPartsSpec) :=
  OpenClaim.holds_of_wide 5 Try.f5 rfl rfl rfl rfl rfl rfl rfl ⟨rfl, rfl, rfl, rfl, rfl⟩ rfl rfl rfl rfl rfl (by kernel_rfl) Try.func5 (by kernel_rfl)
    (of_decide_eq_true (by kernel_rfl)) (by unfold Func.isWrapper; first | (rw [if_pos (by decide +kernel)]; kernel_rfl) | (rw [if_neg (by decide +kernel)]; exact ⟨rfl, rfl⟩))
    (fun os started H enc _ => lifted os started H enc)

theorem proved : Rows.BeamPartsSaid := over
#print axioms proved
end Go.Proofs.Ytgfioiclhoiobaa.beamParts
