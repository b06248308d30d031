/- WHAT COMES LATER CHANGES NOTHING: of any formula of at most 12 parts, at each place of at most 12 things that are told, whatever 12 more there are behind, whether it is so is the same. Conditions: none. -/
import Derived.Test.YtmemhlhjkpijpaaOuA
namespace Go.Proofs.Ytmemhlhjkpijpaa.holdsEarly
open Go.ChangeShapes Go.WideShapes Go.ChangeAt Go.RowKit Go.Proofs.Ytmemhlhjkpijpaa
set_option linter.unusedVariables false
set_option linter.unusedSimpArgs false
set_option maxRecDepth 100000
attribute [local go_sem] cell_set_ite Near.cell Near.frozen

set_option maxHeartbeats 4000000 in
theorem few (w : World) (A : Option Addr) (n c : Nat) (ts : Nat → Tm) (h : Terms w A n ts) (hc : n ≤ c) (hn : n ≤ 12) (B : Option Addr) (m d : Nat) (os : Nat → Ou) (ho : Outs w B m os) (hd : m ≤ d) (hm : m ≤ 12) (C : Option Addr) (p e : Nat) (us : Nat → Ou) (hu : Outs w C p us) (he : p ≤ e) (hp : p ≤ 12) :
    Calls Try.prog 5 #[.slice A n c, .slice B m d, .slice C p e] w fun e w' => e = .returned (.bool true) ∧ Below w.heap.size w w' := by
  have HT := Lib.hid (fun w' (hb : Below w.heap.size w w') => h.below hb)
  have HO := Lib.hid (fun w' (hb : Below w.heap.size w w') => ho.below hb)
  have HU := Lib.hid (fun w' (hb : Below w.heap.size w w') => hu.below hb)
  have t0 : decide (12 < (n : Int)) = false := decide_eq_false (by omega)
  have t1 : decide (12 < (m : Int)) = false := decide_eq_false (by omega)
  have t2 : decide (12 < (p : Int)) = false := decide_eq_false (by omega)
  have A0 : Below w.heap.size w w := Below.refl _ _
  clear h ho hu
  go_enter Try.func5, Try.ntmps5
  go_wp2_with (at_builtin; refine app_outs (base := w.heap.size) (n := 0) (os := fun _ => ou0) rfl _ _ rfl rfl rfl (HO.out _ A0) (World.ownsRow_nil _ _ _ _) (Nat.le_refl _) (by omega) ?_)
  intro P1 d1 w1 o1 hd1 g1
  have A1 : Below w.heap.size w w1 := A0.grown g1 (Nat.le_refl _) (fun q hq => by cases hq)
  have s1 := A1.size
  have e1 : ouJ (fun _ => ou0) os 0 = os := by
    funext i
    unfold ouJ
    rw [if_neg (by omega), Nat.sub_zero]
  rw [e1] at o1
  have O1 := Lib.hid o1
  clear o1 g1 e1
  go_wp2_with (at_builtin; refine app_outs (base := w.heap.size) (n := m) (os := os) rfl _ _ rfl rfl rfl (HU.out _ A1) O1.out s1 (by omega) ?_)
  intro P2 d2 w2 o2 hd2 g2
  have A2 : Below w.heap.size w w2 := A1.grown g2 s1 (fun q hq => (O1.out.lt q hq).1)
  have HA := Lib.hid (fun w' (hb : Below w2.heap.size w2 w') => (Outs.of_own o2).below hb)
  have hx : ∀ k, k < m → soM (ouJ os us m) (mnF ts n) k = soM os (mnF ts n) k := fun k hk => so_congr _ (fun i hi => if_pos (by omega))
  have HX := Lib.hid hx
  clear o2 g2 O1 A1 s1 HU hx
  go_wp2_with (fail)
  go_loopg [8, 31] m (fun gk x i wr => ∃ k : Nat, k ≤ m ∧ gk = m - k ∧ i = .int .i64 k ∧ Below w.heap.size w wr ∧ Below w2.heap.size w2 wr)
  case atStart => exact ⟨0, by omega, rfl, rfl, A2, Below.refl _ _⟩
  case round =>
    clear A2 A0
    obtain ⟨k, hk, rfl, rfl, A1, B1⟩ := hrel
    by_cases hlt : k < m
    · have H1 : ∃ v, (∀ w', Below w.heap.size w w' → Calls Try.prog 11 #[.slice A n c, .slice B m d, .int .i64 (k : Int)] w' fun e w'' => e = .returned (.bool v) ∧ Below w'.heap.size w' w'') ∧
          (∀ w', Below w.heap.size w w' → Below w2.heap.size w2 w' → Calls Try.prog 11 #[.slice A n c, .slice P2 (m + p) d2, .int .i64 (k : Int)] w' fun e w'' => e = .returned (.bool v) ∧ Below w'.heap.size w' w'') := by
        cases hr : rtB ts n
        · exact ⟨false, fun w' hb => ho_holds_no A B n c m d k ts w' (HT.out w' hb) hr, fun w' hb _ => ho_holds_no A P2 n c (m + p) d2 k ts w' (HT.out w' hb) hr⟩
        · exact ⟨_, fun w' hb => ho_known k _ (HT.out w' hb) (HO.out w' hb) hc (by omega) hd hlt hr rfl, fun w' hb hb2 => ho_known k _ (HT.out w' hb) (HA.out w' hb2) hc (by omega) hd2 (by omega) hr (HX.out k hlt)⟩
      obtain ⟨v, H1, H2⟩ := H1
      have K1 := Lib.hid H1
      have K2 := Lib.hid H2
      clear H1 H2
      go_wp2_with (fail)
      refine (K1.out _ A1).mono ?_
      rintro e w4 ⟨rfl, hb⟩
      have A4 := below_call A1 hb
      have B4 := B1.trans (hb.mono B1.size)
      clear hb A1 B1
      go_wp2_with (fail)
      refine (K2.out _ A4 B4).mono ?_
      rintro e w5 ⟨rfl, hb⟩
      have A5 := below_call A4 hb
      have B5 := B4.trans (hb.mono B4.size)
      clear hb A4 B4 K1 K2
      have tv : (v != v) = false := by simp
      cases v
      all_goals
        go_wp2_with (fail)
        go_roundg (m - (k + 1))
        case measure => omega
        case rel => exact ⟨k + 1, by omega, by omega, by go_num, A5, B5⟩
    · obtain rfl : k = m := by omega
      clear HX HA HO HT B1
      go_wp2_with (go_at_call 8; refine (law57_awake _).mono ?_; rintro e w' ⟨rfl, hb'⟩)
      go_ret
      exact ⟨rfl, below_call A1 hb'⟩

theorem walk (w : World) (A : Option Addr) (n c : Nat) (rs : List (List Value)) (hi : Rows [.int .i64, .int .i64, .int .i64] w A n rs) (hc : n ≤ c) (hr : n * 24 ≤ 140737488351232)
    (B : Option Addr) (m d : Nat) (ro : List (List Value)) (ho : Rows [.int .i64, .int .i64, .int .i64, .int .i64, .int .i64, .int .i64, .int .i64, .int .i64, .int .i64, .bool, .string] w B m ro) (hd : m ≤ d) (hq : m * 96 ≤ 140737488351232)
    (C : Option Addr) (p e : Nat) (ru : List (List Value)) (hu : Rows [.int .i64, .int .i64, .int .i64, .int .i64, .int .i64, .int .i64, .int .i64, .int .i64, .int .i64, .bool, .string] w C p ru) (he : p ≤ e) (hz : p * 96 ≤ 140737488351232) :
    Calls Try.prog 5 #[.slice A n c, .slice B m d, .slice C p e] w fun e w' => e = .returned (.bool true) ∧ Below w.heap.size w w' := by
  obtain ⟨ts, h⟩ := Terms.of_rows hi
  obtain ⟨os, hos⟩ := Outs.of_rows ho
  obtain ⟨us, hus⟩ := Outs.of_rows hu
  clear hi ho hu
  by_cases hn : n ≤ 12
  · by_cases hm : m ≤ 12
    · by_cases hp : p ≤ 12
      · exact few w A n c ts h hc hn B m d os hos hd hm C p e us hus he hp
      · have t0 : decide (12 < (n : Int)) = false := decide_eq_false (by omega)
        have t1 : decide (12 < (m : Int)) = false := decide_eq_false (by omega)
        have t2 : decide (12 < (p : Int)) = true := decide_eq_true (by omega)
        clear h hos hus hn hm hp
        go_enter Try.func5, Try.ntmps5
        go_wp2_with (go_at_call 8; refine (law57_awake _).mono ?_; rintro e w' ⟨rfl, hb'⟩)
        go_ret
        exact ⟨rfl, hb'⟩
    · have t0 : decide (12 < (n : Int)) = false := decide_eq_false (by omega)
      have t1 : decide (12 < (m : Int)) = true := decide_eq_true (by omega)
      clear h hos hus hn hm
      go_enter Try.func5, Try.ntmps5
      go_wp2_with (go_at_call 8; refine (law57_awake _).mono ?_; rintro e w' ⟨rfl, hb'⟩)
      go_ret
      exact ⟨rfl, hb'⟩
  · have t0 : decide (12 < (n : Int)) = true := decide_eq_true (by omega)
    clear h hos hus hn
    go_enter Try.func5, Try.ntmps5
    go_wp2_with (go_at_call 8; refine (law57_awake _).mono ?_; rintro e w' ⟨rfl, hb'⟩)
    go_ret
    exact ⟨rfl, hb'⟩

set_option maxRecDepth 100000 in
theorem lifted (os : Os) (started : os.Started) (H : Type) (enc : TypeId × Value → H) :
    ReturnsInHanded {} Try.checked os 5 .any (Rows.holdsEarlySpec.pre6 enc Try.prog Try.f5 Rows.holdsEarlyRow.domain false) (Rows.holdsEarlySpec.post enc Try.prog Try.f5 false true false false) := by
  refine law_lift started (by kernel_rfl) Try.func5 rfl rfl ?_ (by kernel_rfl)
    (ChangeSpec.witness6 (enc := enc) (C := Try.checked) false ⟨#[], #[.slice none 0 0, .slice none 0 0, .slice none 0 0], []⟩ 8 (by kernel_rfl) (by kernel_rfl) (by kernel_rfl) (by kernel_rfl)) ?_
  · intro ds hl
    match ds, hl with
    | [_, _, _], _ => exact ⟨rfl, rfl, rfl⟩
  · intro W base args ds p hval hA hlt hwt
    rw [Try.params5] at hA hval hwt
    obtain ⟨v0, vs0, d0, ds0, p0, q0, hargs, rfl, rfl, h0, r0⟩ := trodAll_cons hA
    obtain ⟨v1, vs1, d1, ds1, p1, q1, rfl, rfl, rfl, h1, r1⟩ := trodAll_cons r0
    obtain ⟨v2, vs2, d2, ds2, p2, q2, rfl, rfl, rfl, h2, r2⟩ := trodAll_cons r1
    obtain ⟨rfl, rfl, rfl⟩ := trodAll_nil r2
    obtain rfl : args = #[v0, v1, v2] := by cases args; simp_all
    have wt0 : ∀ n ∈ d0.weights Try.prog 22, n ≤ reachBytes := fun n hn => by
      have := List.all_eq_true.1 hwt n (DataW.weights_mem_each (j := 0) (t := 22) (d := d0) rfl rfl n hn)
      simpa using this
    have lt0 : ∀ x ∈ p0, x.block < W.heap.size := fun x hx => hlt x (by simp [hx])
    obtain ⟨A0, n0, c0, xs0, rfl, hi0, hc0, hr0⟩ := open_rows_arg (nb := 24) 5 [.int .i64, .int .i64, .int .i64] Try.underlying22 (by kernel_rfl) (by kernel_rfl) (by decide) (by kernel_rfl) (hval 0 22 v0 rfl rfl) h0 lt0 wt0
    have wt1 : ∀ n ∈ d1.weights Try.prog 23, n ≤ reachBytes := fun n hn => by
      have := List.all_eq_true.1 hwt n (DataW.weights_mem_each (j := 1) (t := 23) (d := d1) rfl rfl n hn)
      simpa using this
    have lt1 : ∀ x ∈ p1, x.block < W.heap.size := fun x hx => hlt x (by simp [hx])
    obtain ⟨A1, n1, c1, xs1, rfl, hi1, hc1, hr1⟩ := open_rows_arg 5 [.int .i64, .int .i64, .int .i64, .int .i64, .int .i64, .int .i64, .int .i64, .int .i64, .int .i64, .bool, .string] Try.underlying23 (by kernel_rfl) (by kernel_rfl) (by decide) (by kernel_rfl) (hval 1 23 v1 rfl rfl) h1 lt1 wt1
    have wt2 : ∀ n ∈ d2.weights Try.prog 23, n ≤ reachBytes := fun n hn => by
      have := List.all_eq_true.1 hwt n (DataW.weights_mem_each (j := 2) (t := 23) (d := d2) rfl rfl n hn)
      simpa using this
    have lt2 : ∀ x ∈ p2, x.block < W.heap.size := fun x hx => hlt x (by simp [hx])
    obtain ⟨A2, n2, c2, xs2, rfl, hi2, hc2, hr2⟩ := open_rows_arg 5 [.int .i64, .int .i64, .int .i64, .int .i64, .int .i64, .int .i64, .int .i64, .int .i64, .int .i64, .bool, .string] Try.underlying23 (by kernel_rfl) (by kernel_rfl) (by decide) (by kernel_rfl) (hval 2 23 v2 rfl rfl) h2 lt2 wt2
    exact walk W A0 n0 c0 xs0 hi0 hc0 hr0 A1 n1 c1 xs1 hi1 hc1 hr1 A2 n2 c2 xs2 hi2 hc2 hr2

theorem over : Rows.holdsEarlyRow.holds Try.pinned (OpenSpec.ofChange Rows.holdsEarlySpec) :=
  OpenClaim.holds_of_wide 5 Try.f5 rfl rfl rfl rfl rfl rfl rfl ⟨rfl, rfl, rfl, rfl, rfl⟩ rfl rfl rfl rfl rfl (by kernel_rfl) Try.func5 (by kernel_rfl)
    (of_decide_eq_true (by kernel_rfl)) (by unfold Func.isWrapper; first | (rw [if_pos (by decide +kernel)]; kernel_rfl) | (rw [if_neg (by decide +kernel)]; exact ⟨rfl, rfl⟩))
    (fun os started H enc _ => lifted os started H enc)

theorem proved : Rows.HoldsEarlySaid := over
#print axioms proved
end Go.Proofs.Ytmemhlhjkpijpaa.holdsEarly
