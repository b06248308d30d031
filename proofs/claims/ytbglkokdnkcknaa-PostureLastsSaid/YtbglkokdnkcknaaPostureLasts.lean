/- PostureLasts holds of every list of tilts and batteries: what lasts for less than twenty ticks is never told; what lasts for twenty is, in the twentieth. No condition. -/
import Derived.Test.YtbglkokdnkcknaaPost
import Derived.Test.YtbglkokdnkcknaaTab
namespace Go.Proofs.Ytbglkokdnkcknaa.postureLasts
open Go.ChangeShapes Go.WideShapes Go.ChangeAt Go.RowKit
set_option linter.unusedVariables false
attribute [local go_sem] Near.cell Near.frozen cell_set_ite

theorem tilt_is {q : Nat} {t : Int} (h : q ≤ 1000) : ∃ q2 : Nat, poT q t = (q2 : Int) ∧ q2 ≤ q + 1 ∧ (30 < t → q2 = q + 1) ∧ (t ≤ 30 → q2 = 0) := by
  unfold poT roV
  by_cases g : 30 < t
  · exact ⟨q + 1, by rw [if_pos (decide_eq_true g), mo_in (by omega) (by omega)]; rfl, by omega, fun _ => rfl, fun _ => by omega⟩
  · exact ⟨0, by rw [if_neg (by rw [decide_eq_false g]; simp)]; rfl, by omega, fun h => absurd h g, fun _ => rfl⟩
theorem batt_is {q : Nat} {t : Int} (h : q ≤ 1000) : ∃ q2 : Nat, poB q t = (q2 : Int) ∧ q2 ≤ q + 1 ∧ (t < 3300 → q2 = q + 1) ∧ (3300 ≤ t → q2 = 0) := by
  unfold poB roV
  by_cases g : t < 3300
  · exact ⟨q + 1, by rw [if_pos (decide_eq_true g), mo_in (by omega) (by omega)]; rfl, by omega, fun _ => rfl, fun _ => by omega⟩
  · exact ⟨0, by rw [if_neg (by rw [decide_eq_false g]; simp)]; rfl, by omega, fun h => absurd h g, fun _ => rfl⟩

set_option maxRecDepth 100000 in
set_option maxHeartbeats 4000000 in
theorem some_ (W : World) (A0 : Option Addr) (n c : Nat) (T : Nat → Nat → Int) (hi : Tab (Value.int .u16) 2 W A0 n T) (hT : ∀ i, i < n → ∀ j, j < 2 → 0 ≤ T i j ∧ T i j ≤ 65535) (hc : n ≤ c) (hn : n ≤ 120) :
    Calls Try.prog 13 #[.slice A0 n c] W fun e W' => e = .returned (.bool true) ∧ Below W.heap.size W W' := by
  have HI := Lib.hid hi
  have HT := Lib.hid hT
  have A : Below W.heap.size W W := Below.refl _ _
  have B := box_new W #[.int .i64 0, .int .i64 0] 53
  have tn : decide (120 < (n : Int)) = false := decide_eq_false (by omega)
  clear hi hT
  go_enter Try.func13, Try.ntmps13
  go_wp2
  replace A := below_alloc_on A (.cells #[.int .i64 0, .int .i64 0] 53)
  generalize W.alloc (.cells #[.int .i64 0, .int .i64 0] 53) = w1 at *
  go_loopw [4, 5, 15] (fun x y i wr => ∃ j p q : Nat, j ≤ n ∧ p ≤ j ∧ q ≤ j ∧ i = .int .i64 j ∧ x = .int .i64 p ∧ y = .int .i64 q ∧ Below W.heap.size W wr ∧ Box wr W.heap.size #[.int .i64 p, .int .i64 q]) (fun _ _ i _ => n - (intOf i).toNat)
  case atStart => exact ⟨0, 0, 0, Nat.zero_le _, Nat.zero_le _, Nat.zero_le _, rfl, rfl, rfl, A, B⟩
  case round =>
    clear A B
    obtain ⟨j, p, q, hj, hp, hq, rfl, rfl, rfl, A, B⟩ := hrel
    by_cases hlt : j < n
    · obtain ⟨b, off, rfl, hbs, hck⟩ := HI.out.at_ hlt
      obtain ⟨x0, x1⟩ := HT.out j hlt 0 (by omega)
      obtain ⟨y0, y1⟩ := HT.out j hlt 1 (by omega)
      have k0 : wr.cell? ⟨b, off + j * 2, none⟩ = some (.int .u16 (T j 0)) := (A.cell (p := ⟨b, off + (j * 2 + 0), none⟩) hbs).trans (hck 0 (by omega))
      have k1 : wr.cell? ⟨b, off + j * 2 + 1, none⟩ = some (.int .u16 (T j 1)) := (A.cell (p := ⟨b, off + (j * 2 + 1), none⟩) hbs).trans (hck 1 (by omega))
      have zb : b < wr.heap.size := Nat.lt_of_lt_of_le hbs A.size
      clear hck
      generalize T j 0 = x at *
      generalize T j 1 = y at *
      obtain ⟨p2, e1, e2, e3, e4⟩ := tilt_is (q := p) (t := x) (by omega)
      obtain ⟨q2, e5, e6, e7, e8⟩ := batt_is (q := q) (t := y) (by omega)
      have HS := Lib.hid (fun w => po_step p q x y w)
      rw [e1, e5] at HS
      have HF := Lib.hid (fun w => po_tilted p2 q2 w)
      have HG := Lib.hid (fun w => po_flat p2 q2 w)
      unfold whB at HF HG
      have HL := Lib.hid (fun w => po_low y w)
      have hw1 : IntKind.i64.wrap x = x := IntWalk.i64_in _ (by omega)
      have hw2 : IntKind.i64.wrap y = y := IntWalk.i64_in _ (by omega)
      obtain ⟨lB, cB, fB⟩ := id B
      clear e1 e5
      go_wp2
      refine wp_region_calm (by kernel_rfl) (by kernel_rfl) ?_
      repeat (go_big_quiet_step ((fail)))
      refine wpQuiet_nil ?_
      intro _ hw'
      obtain ⟨u, rfl⟩ := hw'
      replace A := u.up A
      replace B := B.near u
      generalize u.at_ = w2 at *
      clear lB cB fB u k0 k1 zb hw1 hw2
      obtain ⟨lB, cB, fB⟩ := id B
      go_wp2_with (fail)
      refine (HS.out _).mono ?_
      rintro e w3 ⟨rfl, hb⟩
      replace A : Below W.heap.size W w3 := by (refine below_call ?_ hb; (repeat (first | (with_reducible exact Below.refl _ _) | (with_reducible assumption) | (with_reducible refine Near.up _ ?_) | (with_reducible refine below_alloc_on ?_ _) | (with_reducible refine below_set_on ?_ (by first | (simp; done) | (simp; omega) | omega) _))))
      replace B := Box.below (g := W.heap.size) (by (repeat (first | (with_reducible assumption) | (with_reducible exact box_new _ _ _) | (with_reducible refine Box.near ?_ _) | (with_reducible refine Box.alloc ?_ _) | (with_reducible refine Box.far ?_ (by first | assumption | (simp; done) | (simp; omega) | omega) _) | (with_reducible apply Box.set) | (exact (by simp))))) hb
      (try simp only [List.setIfInBounds_toArray, List.set_cons_zero, List.set_cons_succ] at B)
      (try clear cB fB)
      clear hb
      have z_w3 : W.heap.size ≤ w3.heap.size := A.size
      obtain ⟨lB_w3, cB, fB⟩ := id B
      by_cases g1 : x ≤ 30
      all_goals
        by_cases g2 : 3300 ≤ y
        all_goals
          first
            | (have e9 := e4 g1; have t1 := decide_eq_true g1)
            | (have e9 := e3 (by omega); have t1 := decide_eq_false g1)
          first
            | (have e10 := e8 g2; have t2 := decide_eq_true g2)
            | (have e10 := e7 (by omega); have t2 := decide_eq_false g2; rw [show lwB y = true from decide_eq_true (by omega)] at HL)
          clear e3 e4 e7 e8
          subst e9
          subst e10
          go_wp2_with (fail)
          refine (HF.out _).mono ?_
          rintro e w4 ⟨rfl, hb⟩
          replace A : Below W.heap.size W w4 := by (refine below_call ?_ hb; (repeat (first | (with_reducible exact Below.refl _ _) | (with_reducible assumption) | (with_reducible refine Near.up _ ?_) | (with_reducible refine below_alloc_on ?_ _) | (with_reducible refine below_set_on ?_ (by first | (simp; done) | (simp; omega) | omega) _))))
          replace B := Box.below (g := W.heap.size) (by (repeat (first | (with_reducible assumption) | (with_reducible exact box_new _ _ _) | (with_reducible refine Box.near ?_ _) | (with_reducible refine Box.alloc ?_ _) | (with_reducible refine Box.far ?_ (by first | assumption | (simp; done) | (simp; omega) | omega) _) | (with_reducible apply Box.set) | (exact (by simp))))) hb
          (try simp only [List.setIfInBounds_toArray, List.set_cons_zero, List.set_cons_succ] at B)
          (try clear cB fB)
          clear hb
          have z_w4 : W.heap.size ≤ w4.heap.size := A.size
          obtain ⟨lB_w4, cB, fB⟩ := id B
          go_wp2_with (fail)
          refine (HG.out _).mono ?_
          rintro e w5 ⟨rfl, hb⟩
          replace A : Below W.heap.size W w5 := by (refine below_call ?_ hb; (repeat (first | (with_reducible exact Below.refl _ _) | (with_reducible assumption) | (with_reducible refine Near.up _ ?_) | (with_reducible refine below_alloc_on ?_ _) | (with_reducible refine below_set_on ?_ (by first | (simp; done) | (simp; omega) | omega) _))))
          replace B := Box.below (g := W.heap.size) (by (repeat (first | (with_reducible assumption) | (with_reducible exact box_new _ _ _) | (with_reducible refine Box.near ?_ _) | (with_reducible refine Box.alloc ?_ _) | (with_reducible refine Box.far ?_ (by first | assumption | (simp; done) | (simp; omega) | omega) _) | (with_reducible apply Box.set) | (exact (by simp))))) hb
          (try simp only [List.setIfInBounds_toArray, List.set_cons_zero, List.set_cons_succ] at B)
          (try clear cB fB)
          clear hb
          have z_w5 : W.heap.size ≤ w5.heap.size := A.size
          obtain ⟨lB_w5, cB, fB⟩ := id B
          go_wp2_with (go_at_call 40; refine (HL.out _).mono ?_; rintro e w' ⟨rfl, rfl⟩)
          go_roundw
          case rel => first
            | exact ⟨j + 1, 0, 0, by omega, by omega, by omega, by go_num, rfl, rfl, A, B⟩
            | exact ⟨j + 1, p + 1, 0, by omega, by omega, by omega, by go_num, by go_num, rfl, A, B⟩
            | exact ⟨j + 1, 0, q + 1, by omega, by omega, by omega, by go_num, rfl, by go_num, A, B⟩
            | exact ⟨j + 1, p + 1, q + 1, by omega, by omega, by omega, by go_num, by go_num, by go_num, A, B⟩
          case measure => simp [intOf]; omega
    · obtain rfl : j = n := by omega
      go_wp2_with (fail)
      refine (law33_awake _).mono ?_
      rintro e w2 ⟨rfl, hb⟩
      replace A : Below W.heap.size W w2 := by (refine below_call ?_ hb; (repeat (first | (with_reducible exact Below.refl _ _) | (with_reducible assumption) | (with_reducible refine Near.up _ ?_) | (with_reducible refine below_alloc_on ?_ _) | (with_reducible refine below_set_on ?_ (by first | (simp; done) | (simp; omega) | omega) _))))
      clear hb
      have z_w2 : W.heap.size ≤ w2.heap.size := A.size
      go_wp2
      all_goals go_ret
      all_goals exact ⟨rfl, A⟩

theorem walk (W : World) (A : Option Addr) (n c : Nat) (rs : List (List Value)) (hi : Rows [.int .u16, .int .u16] W A n rs) (hc : n ≤ c) (hr : n * 4 ≤ 140737488351232) :
    Calls Try.prog 13 #[.slice A n c] W fun e W' => e = .returned (.bool true) ∧ Below W.heap.size W W' := by
  by_cases h : 120 < n
  · have t1 : decide (120 < (n : Int)) = true := decide_eq_true (by omega)
    clear hi
    go_enter Try.func13, Try.ntmps13
    go_wp2_with (fail)
    refine (law33_awake _).mono ?_
    rintro e w3 ⟨rfl, hb⟩
    go_wp2
    all_goals go_ret
    all_goals exact ⟨rfl, hb⟩
  · obtain ⟨T, hT, hw⟩ := tab_ints (m := 2) hi
    refine some_ W A n c T hT (fun i hi j hj => ?_) hc (by omega)
    have h := hw i hi j hj
    simp only [Lit.wf, IntKind.min, IntKind.max, IntKind.signed, IntKind.bits, Bool.and_eq_true] at h
    simpa using h

theorem lifted (os : Os) (started : os.Started) (H : Type) (enc : TypeId × Value → H) :
    ReturnsInHanded {} Try.checked os 13 .any (Rows.postureLastsSpec.pre6 enc Try.prog Try.f13 Rows.postureLastsRow.domain false) (Rows.postureLastsSpec.post enc Try.prog Try.f13 false true false false) := by
  refine law_lift started (by kernel_rfl) Try.func13 rfl rfl ?_ (by kernel_rfl)
    (ChangeSpec.witness6 (enc := enc) (C := Try.checked) false ⟨#[], #[.slice none 0 0], []⟩ 8 (by kernel_rfl) (by kernel_rfl) (by kernel_rfl) (by kernel_rfl)) ?_
  · intro ds hl
    match ds, hl with
    | [_], _ => exact ⟨rfl, rfl, rfl⟩
  · intro W base args ds p hval hA hlt hwt
    rw [Try.params13] at hA hval hwt
    obtain ⟨v0, vs0, d0, ds0, p0, q0, hargs, rfl, rfl, h0, r0⟩ := trodAll_cons hA
    obtain ⟨rfl, rfl, rfl⟩ := trodAll_nil r0
    obtain rfl : args = #[v0] := by cases args; simp_all
    have wt0 : ∀ n ∈ d0.weights Try.prog 58, n ≤ reachBytes := fun n hn => by
      have := List.all_eq_true.1 hwt n (DataW.weights_mem_each (j := 0) (t := 58) (d := d0) rfl rfl n hn)
      simpa using this
    have lt0 : ∀ x ∈ p0, x.block < W.heap.size := fun x hx => hlt x (by simp [hx])
    obtain ⟨A0, n0, c0, xs0, rfl, hi0, hc0, hr0⟩ := open_rows_arg 5 [.int .u16, .int .u16] Try.underlying58 (by kernel_rfl) (by kernel_rfl) (by decide) (by kernel_rfl) (hval 0 58 v0 rfl rfl) h0 lt0 wt0
    exact walk W A0 n0 c0 xs0 hi0 hc0 hr0

theorem over : Rows.postureLastsRow.holds Try.pinned (OpenSpec.ofChange Rows.postureLastsSpec) :=
  OpenClaim.holds_of_wide 13 Try.f13 rfl rfl rfl rfl rfl rfl rfl ⟨rfl, rfl, rfl, rfl, rfl⟩ rfl rfl rfl rfl rfl (by kernel_rfl) Try.func13 (by kernel_rfl)
    (of_decide_eq_true (by kernel_rfl)) (by unfold Func.isWrapper; first | (rw [if_pos (by decide +kernel)]; kernel_rfl) | (rw [if_neg (by decide +kernel)]; exact ⟨rfl, rfl⟩))
    (fun os started H enc _ => lifted os started H enc)

theorem proved : Rows.PostureLastsSaid := over
#print axioms proved
end Go.Proofs.Ytbglkokdnkcknaa.postureLasts
