/- HoldsSays: of any formula of at most 12 parts, of at most 25 things that are told, and any place, whether it is so, and what is asked, are the document's. Conditions: none. -/
import Derived.Test.YtmemhlhjkpijpaaLaw57
import Derived.Test.YtmemhlhjkpijpaaRefM
import Derived.Test.YtmemhlhjkpijpaaArr
namespace Go.Proofs.Ytmemhlhjkpijpaa.holdsSays
open Go.ChangeShapes Go.WideShapes Go.ChangeAt Go.RowKit Go.Proofs.Ytmemhlhjkpijpaa
set_option linter.unusedVariables false
set_option linter.unusedSimpArgs false
set_option maxRecDepth 100000
attribute [local go_sem] cell_set_ite Near.cell Near.frozen

theorem lw_long (A B : Option Addr) (n c m d : Nat) (w : World) : Calls Try.prog 7 #[.slice A n c, .slice B m d] w fun e w' => e = .returned (.bool (decide (12 < (n : Int)) || decide (25 < (m : Int)))) ∧ w = w' := by
  cases t0 : decide (12 < (n : Int))
  all_goals
    go_enter Try.func7, Try.ntmps7
    go_wp2_with (fail)
    all_goals go_ret
    all_goals exact ⟨rb_ (by simp), rfl⟩
set_option maxHeartbeats 4000000 in
theorem few (w : World) (A : Option Addr) (n c : Nat) (ts : Nat → Tm) (h : Terms w A n ts) (hc : n ≤ c) (hn : n ≤ 12) (B : Option Addr) (m d : Nat) (os : Nat → Ou) (ho : Outs w B m os) (hd : m ≤ d) (hm : m ≤ 25) (p q : Int) :
    Calls Try.prog 3 #[.slice A n c, .slice B m d, .agg #[.int .i64 p, .int .i64 q]] w fun e w' => e = .returned (.bool true) ∧ Below w.heap.size w w' := by
  have H1 : ∃ v, (∀ w', Below w.heap.size w w' → Calls Try.prog 11 #[.slice A n c, .slice B m d, .int .i64 p] w' fun e w'' => e = .returned (.bool v) ∧ Below w'.heap.size w' w'') ∧
      (∀ w', Below w.heap.size w w' → Calls Try.prog 12 #[.slice A n c, .slice B m d, .int .i64 p] w' fun e w'' => e = .returned (.bool v) ∧ Below w'.heap.size w' w'') := by
    cases hr : rtB ts n
    · exact ⟨false, fun w' hb => ho_holds_no A B n c m d p ts w' (h.below hb) hr, fun w' hb => r7_holds_no A B n c m d p ts w' (h.below hb) hr⟩
    · by_cases hp : p < 0 ∨ (m : Int) ≤ p
      · exact ⟨false, fun w' hb => ho_holds_out A B n c m d p ts w' (h.below hb) hp, fun w' hb => r7_holds_out A B n c m d p ts w' (h.below hb) hp⟩
      · obtain ⟨k, rfl⟩ : ∃ k : Nat, p = (k : Int) := ⟨p.toNat, by omega⟩
        exact ⟨_, fun w' hb => ho_holds_in A B n c m d k ts os w' (h.below hb) hc (ho.below hb) (by omega) hd (by omega) hr, fun w' hb => r7_holds_in A B n c m d k ts os w' (h.below hb) hc (ho.below hb) (by omega) (by omega) hr⟩
  obtain ⟨v, H1, H2⟩ := H1
  have K1 := Lib.hid H1
  have K2 := Lib.hid H2
  have K3 := Lib.hid (fun o w => ho_ask o q w)
  have K4 := Lib.hid (fun o w => r7_ask o q w)
  have HO := Lib.hid (fun w' (hb : Below w.heap.size w w') => ho.below hb)
  have t0 : (decide (12 < (n : Int)) || decide (25 < (m : Int))) = false := by rw [decide_eq_false (by omega), decide_eq_false (by omega)]; rfl
  have HL := Lib.hid (fun w => lw_long A B n c m d w)
  rw [t0] at HL
  have A0 := below_alloc_on (Below.refl w.heap.size w) (.cells #[.int .i64 p, .int .i64 q] 24)
  have BX := box_new w #[.int .i64 p, .int .i64 q] 24
  unfold Ou.cells at K3 K4
  clear H1 H2 h ho t0
  go_enter Try.func3, Try.ntmps3
  go_upto_region 1 with (fail)
  refine at_world (fun W => Below w.heap.size w W ∧ Box W w.heap.size #[.int .i64 p, .int .i64 q]) ⟨A0, BX⟩ ?_
  obtain ⟨g, hg⟩ : ∃ g, w.heap.size = g := ⟨_, rfl⟩
  have hgw : w.heap.size ≤ g := by omega
  simp only [hg]
  rintro w1 ⟨A1, B1⟩
  rw [← hg] at A1
  clear A0 BX hg
  go_wp2_with (fail)
  refine (HL.out _).mono ?_
  rintro e w' ⟨rfl, rfl⟩
  go_wp2_with (fail)
  go_loopg [7, 14] m (fun gk y i wr => ∃ k : Nat, k ≤ m ∧ gk = m - k ∧ i = .int .i64 k ∧ Below w.heap.size w wr ∧ Box wr g #[.int .i64 p, .int .i64 q])
  case atStart => exact ⟨0, by omega, rfl, rfl, A1, B1⟩
  case round =>
    clear A1 B1 HL
    obtain ⟨k, hk, rfl, rfl, A1, B1⟩ := hrel
    obtain ⟨g0, g1, gf, gl⟩ := B1.two
    have HB := Lib.hid B1
    clear B1
    by_cases hlt : k < m
    · obtain ⟨b, off, rfl, hl, c0, c1, c2, c3, c4, c5, c6, c7, c8, c9, c10⟩ := outs_at (HO.out _ A1) hlt
      have km : (k : Int) < (m : Int) := by omega
      obtain ⟨x, hx⟩ : ∃ x, askV (os k) q = x := ⟨_, rfl⟩
      have K3 := Lib.hid (fun w => K3.out (os k) w)
      have K4 := Lib.hid (fun w => K4.out (os k) w)
      rw [hx] at K3 K4
      clear hx
      have tx : (x != x) = false := by simp
      go_wp2_with (fail)
      refine wp_region_calm (by kernel_rfl) (by kernel_rfl) ?_
      repeat (go_big_quiet_step ((first | (go_at_call 9; exact calm_of _ (K3.out _)) | (go_at_call 10; exact calm_of _ (K4.out _)))))
      refine wpQuiet_nil ?_
      intro _ hw'
      obtain ⟨u, rfl⟩ := hw'
      have A2 := Lib.hid (below_call A1 u.below)
      have B2 := Lib.hid (HB.out.near u)
      clear c0 c1 c2 c3 c4 c5 c6 c7 c8 c9 c10 g0 g1 gf gl A1 HB
      go_wp2_with (fail)
      go_roundg (m - (k + 1))
      case measure => omega
      case rel => exact ⟨k + 1, by omega, by omega, by go_num, A2.out, B2.out⟩
    · obtain rfl : k = m := by omega
      have tv : (v == v) = true := by simp
      clear HO K3 K4
      have HW := Lib.hid (fun w => law57_awake w)
      go_wp2_with (fail)
      refine wp_region_calm (by kernel_rfl) (by kernel_rfl) ?_
      repeat (go_big_quiet_step ((first | (go_at_call 11; exact calm_of _ (K1.out _ (below_call A1 (Near.below _)))) | (go_at_call 12; exact calm_of _ (K2.out _ (below_call A1 (Near.below _)))) | (go_at_call 8; exact calm_of _ (HW.out _)))))
      refine wpQuiet_nil ?_
      intro _ hw'
      obtain ⟨u, rfl⟩ := hw'
      have A2 := below_call A1 u.below
      go_wp2_with (fail)
      all_goals go_ret
      all_goals exact ⟨rfl, A2⟩

theorem walk (w : World) (A : Option Addr) (n c : Nat) (rs : List (List Value)) (hi : Rows [.int .i64, .int .i64, .int .i64] w A n rs) (hc : n ≤ c) (hr : n * 24 ≤ 140737488351232)
    (B : Option Addr) (m d : Nat) (ro : List (List Value)) (ho : Rows [.int .i64, .int .i64, .int .i64, .int .i64, .int .i64, .int .i64, .int .i64, .int .i64, .int .i64, .bool, .string] w B m ro) (hd : m ≤ d) (hq : m * 96 ≤ 140737488351232)
    (p : Int) (wp : (Lit.int .i64 p).wf = true) (q : Int) (wq : (Lit.int .i64 q).wf = true) :
    Calls Try.prog 3 #[.slice A n c, .slice B m d, .agg #[.int .i64 p, .int .i64 q]] w fun e w' => e = .returned (.bool true) ∧ Below w.heap.size w w' := by
  obtain ⟨ts, h⟩ := Terms.of_rows hi
  obtain ⟨os, hos⟩ := Outs.of_rows ho
  clear hi ho
  by_cases hn : n ≤ 12 ∧ m ≤ 25
  · exact few w A n c ts h hc hn.1 B m d os hos hd hn.2 p q
  · have t0 : (decide (12 < (n : Int)) || decide (25 < (m : Int))) = true := by
      by_cases x : 12 < (n : Int)
      · rw [decide_eq_true x]; rfl
      · rw [decide_eq_true (p := 25 < (m : Int)) (by omega), Bool.or_true]
    have HL := Lib.hid (fun w => lw_long A B n c m d w)
    rw [t0] at HL
    have A0 := below_alloc_on (Below.refl w.heap.size w) (.cells #[.int .i64 p, .int .i64 q] 24)
    clear h hos hn t0
    go_enter Try.func3, Try.ntmps3
    go_wp2_with (first | (go_at_call 7; refine (HL.out _).mono ?_; rintro e w' ⟨rfl, rfl⟩) | (go_at_call 8; refine (law57_awake _).mono ?_; rintro e w' ⟨rfl, hb'⟩))
    go_ret
    exact ⟨rfl, below_call A0 hb'⟩

set_option maxRecDepth 100000 in
theorem lifted (os : Os) (started : os.Started) (H : Type) (enc : TypeId × Value → H) :
    ReturnsInHanded {} Try.checked os 3 .any (Rows.holdsSaysSpec.pre6 enc Try.prog Try.f3 Rows.holdsSaysRow.domain false) (Rows.holdsSaysSpec.post enc Try.prog Try.f3 false true false false) := by
  refine law_lift started (by kernel_rfl) Try.func3 rfl rfl ?_ (by kernel_rfl)
    (ChangeSpec.witness6 (enc := enc) (C := Try.checked) false ⟨#[], #[.slice none 0 0, .slice none 0 0, .agg #[.int .i64 0, .int .i64 0]], []⟩ 8 (by kernel_rfl) (by kernel_rfl) (by kernel_rfl) (by kernel_rfl)) ?_
  · intro ds hl
    match ds, hl with
    | [_, _, _], _ => exact ⟨rfl, rfl, rfl⟩
  · intro W base args ds p hval hA hlt hwt
    rw [Try.params3] at hA hval hwt
    obtain ⟨v0, vs0, d0, ds0, p0, q0, hargs, rfl, rfl, h0, r0⟩ := trodAll_cons hA
    obtain ⟨v1, vs1, d1, ds1, p1, q1, rfl, rfl, rfl, h1, r1⟩ := trodAll_cons r0
    obtain ⟨v2, vs2, d2, ds2, p2, q2, rfl, rfl, rfl, h2, r2⟩ := trodAll_cons r1
    obtain ⟨rfl, rfl, rfl⟩ := trodAll_nil r2
    obtain rfl : args = #[v0, v1, v2] := by cases args; simp_all
    have wt0 : ∀ n ∈ d0.weights Try.prog 22, n ≤ reachBytes := fun n hn => by
      have := List.all_eq_true.1 hwt n (DataW.weights_mem_each (j := 0) (t := 22) (d := d0) rfl rfl n hn)
      simpa using this
    have lt0 : ∀ x ∈ p0, x.block < W.heap.size := fun x hx => hlt x (by simp [hx])
    obtain ⟨A0, n0, c0, xs0, rfl, hi0, hc0, hr0⟩ := open_rows_arg (nb := 24) 5 [.int .i64, .int .i64, .int .i64] Try.underlying22 (by kernel_rfl) (by kernel_rfl) (by decide) (by kernel_rfl) (hval 0 22 v0 rfl rfl) h0 lt0 wt0
    have wt1 : ∀ n ∈ d1.weights Try.prog 23, n ≤ reachBytes := fun n hn => by
      have := List.all_eq_true.1 hwt n (DataW.weights_mem_each (j := 1) (t := 23) (d := d1) rfl rfl n hn)
      simpa using this
    have lt1 : ∀ x ∈ p1, x.block < W.heap.size := fun x hx => hlt x (by simp [hx])
    obtain ⟨A1, n1, c1, xs1, rfl, hi1, hc1, hr1⟩ := open_rows_arg (nb := 96) 5 [.int .i64, .int .i64, .int .i64, .int .i64, .int .i64, .int .i64, .int .i64, .int .i64, .int .i64, .bool, .string] Try.underlying23 (by kernel_rfl) (by kernel_rfl) (by decide) (by kernel_rfl) (hval 1 23 v1 rfl rfl) h1 lt1 wt1
    obtain ⟨xs2, rfl, l2, w2⟩ := open_int_cells Try.underlying24 Try.underlying3 (by kernel_rfl) (by kernel_rfl) (hval 2 24 v2 rfl rfl) h2
    match xs2, l2, w2 with
    | [x2_0, x2_1], _, w2 =>
    exact walk W A0 n0 c0 xs0 hi0 hc0 hr0 A1 n1 c1 xs1 hi1 hc1 hr1 x2_0 (w2 _ (by simp)) x2_1 (w2 _ (by simp))

theorem over : Rows.holdsSaysRow.holds Try.pinned (OpenSpec.ofChange Rows.holdsSaysSpec) :=
  OpenClaim.holds_of_wide 3 Try.f3 rfl rfl rfl rfl rfl rfl rfl ⟨rfl, rfl, rfl, rfl, rfl⟩ rfl rfl rfl rfl rfl (by kernel_rfl) Try.func3 (by kernel_rfl)
    (of_decide_eq_true (by kernel_rfl)) (by unfold Func.isWrapper; first | (rw [if_pos (by decide +kernel)]; kernel_rfl) | (rw [if_neg (by decide +kernel)]; exact ⟨rfl, rfl⟩))
    (fun os started H enc _ => lifted os started H enc)

theorem proved : Rows.HoldsSaysSaid := over
#print axioms proved
end Go.Proofs.Ytmemhlhjkpijpaa.holdsSays
