/- PiSums holds of every list of small faults: a loop whose opening is within its limits sums up what it is told; the order does not matter. No condition. -/
import Derived.Test.YtmojkehedkhdbaaPi
import Derived.Test.YtmojkehedkhdbaaNums
import Derived.Test.YtmojkehedkhdbaaFan
import Derived.Deep.DeepCutAuto
import Derived.Deep.LoopGhost
namespace Go.Proofs.Ytmojkehedkhdbaa.piSums
open Go.ChangeShapes Go.WideShapes Go.ChangeAt Go.RowKit
set_option linter.unusedVariables false
attribute [local go_sem] cell_set_ite Near.cell Near.frozen

def sm (f : Nat → Int) : Nat → Int
  | 0 => 0
  | j + 1 => sm f j + f j
theorem sm_shift (f : Nat → Int) (n : Nat) : sm f (n + 1) = f 0 + sm (fun i => f (i + 1)) n := by
  induction n with
  | zero => simp [sm]
  | succ n ih => rw [sm, ih, sm]; omega
theorem sm_congr {f g : Nat → Int} {n : Nat} (h : ∀ i, i < n → f i = g i) : sm f n = sm g n := by
  induction n with
  | zero => rfl
  | succ n ih => rw [sm, sm, ih (fun i hi => h i (by omega)), h n (by omega)]
theorem sm_rev (f : Nat → Int) (n : Nat) : sm (fun i => f (n - 1 - i)) n = sm f n := by
  induction n generalizing f with
  | zero => rfl
  | succ n ih =>
    rw [sm_shift f n, sm]
    rw [← ih (fun i => f (i + 1))]
    rw [sm_congr (f := fun i => f (n + 1 - 1 - i)) (g := fun i => (fun i => f (i + 1)) (n - 1 - i)) (fun i hi => by
      show f (n + 1 - 1 - i) = f (n - 1 - i + 1)
      congr 1; omega)]
    rw [show n + 1 - 1 - n = 0 by omega]
    exact Int.add_comm _ _
theorem sm_bd {f : Nat → Int} {n : Nat} (h : ∀ i, i < n → -32768 ≤ f i ∧ f i ≤ 32767) {j : Nat} (hj : j ≤ n) : -32768 * (j : Int) ≤ sm f j ∧ sm f j ≤ 32767 * (j : Int) := by
  induction j with
  | zero => simp [sm]
  | succ j ih =>
    have := ih (by omega)
    have := h j (by omega)
    rw [sm]; omega

set_option maxRecDepth 100000 in
set_option maxHeartbeats 4000000 in
theorem some_ (W : World) (A0 : Option Addr) (n c : Nat) (ss : List Int) (hi : Nums .i16 W A0 n ss) (hc : n ≤ c) (hn : n ≤ 60) (wx : ∀ x ∈ ss, (Lit.int .i16 x).wf = true) :
    Calls Try.prog 9 #[.slice A0 n c] W fun e W' => e = .returned (.bool true) ∧ Below W.heap.size W W' := by
  have HI := Lib.hid hi
  have HX := Lib.hid (show ∀ j : Nat, j < n → -32768 ≤ ss.getD j 0 ∧ ss.getD j 0 ≤ 32767 from fun j hj => by
    have hj' : j < ss.length := by have := hi.1; omega
    have h := wx (ss.getD j 0) (by simp [List.getD, List.getElem?_eq_getElem hj'])
    simp only [Lit.wf, IntKind.min, IntKind.max, IntKind.signed, IntKind.bits, Bool.and_eq_true] at h
    simpa using h)
  have A : Below W.heap.size W W := Below.refl _ _
  have tn : decide (60 < (n : Int)) = false := decide_eq_false (by omega)
  have M0 : Bx W W.heap.size #[.int .i64 9830400] (W.alloc (.cells #[.int .i64 9830400] 47)) := ⟨box_new _ _ _, below_alloc_on A _, Nat.le_refl _⟩
  clear hi wx
  go_enter Try.func9, Try.ntmps9
  go_upto_region 4 with fail
  go_cut [4, 5, 6] (fun a b s wx => ∃ g h : Nat, a = .pointer (some ⟨g, 0, none⟩) ∧ b = .pointer (some ⟨h, 0, none⟩) ∧ s = .int .i64 0 ∧ W.heap.size < g ∧ W.heap.size < h ∧ g ≠ h ∧ Below W.heap.size W wx ∧ Box wx W.heap.size #[.int .i64 9830400] ∧ Box wx g #[.int .i64 9830400] ∧ Box wx h #[.int .i64 9830400])
  case first =>
    go_region_held3 (fun w' => w'.cell? ⟨W.heap.size, 0, none⟩ = some (.int .i64 9830400) ∧ W.heap.size < w'.heap.size ∧ Bx W W.heap.size #[.int .i64 9830400] w')
      ((exact ⟨Bx.cell (W := W) (g := W.heap.size) (cs := #[.int .i64 9830400]) (by (repeat (first | assumption | (refine Bx.call ?_ hb) | (refine Bx.drew ?_) | (refine Bx.alloc ?_ _) | (refine Bx.far2 ?_ (by first | (simp; done) | (simp; omega) | omega) (by first | (simp; done) | (simp; omega) | omega) _)))) 0 _ rfl, Bx.lt (W := W) (g := W.heap.size) (cs := #[.int .i64 9830400]) (by (repeat (first | assumption | (refine Bx.call ?_ hb) | (refine Bx.drew ?_) | (refine Bx.alloc ?_ _) | (refine Bx.far2 ?_ (by first | (simp; done) | (simp; omega) | omega) (by first | (simp; done) | (simp; omega) | omega) _)))), (by (repeat (first | assumption | (refine Bx.call ?_ hb) | (refine Bx.drew ?_) | (refine Bx.alloc ?_ _) | (refine Bx.far2 ?_ (by first | (simp; done) | (simp; omega) | omega) (by first | (simp; done) | (simp; omega) | omega) _))))⟩))
      (fail)
    all_goals go_wp2_with (fail)
    all_goals go_meet
    all_goals first
      | exact ⟨W.heap.size + 1, W.heap.size + 1 + 1, rfl, rfl, rfl, by omega, by omega, by omega, by (repeat (first | (with_reducible exact Below.refl _ _) | (with_reducible assumption) | (with_reducible refine Near.up _ ?_) | (with_reducible refine Below.drew ?_) | (with_reducible refine below_alloc_on ?_ _) | (with_reducible refine below_set_on ?_ (by first | (simp; done) | (simp; omega) | omega) _))), by (repeat (first | (with_reducible assumption) | (with_reducible exact box_new _ _ _) | ((with_reducible apply box_at); (first | (with_reducible rfl) | (simp <;> omega))) | (with_reducible apply Box.drew) | (with_reducible apply Box.drewN) | (with_reducible apply Box.near) | (with_reducible apply Box.alloc) | ((with_reducible apply box_far); (first | assumption | omega | (simp <;> omega))) | (with_reducible apply Box.set) | (simp only [List.size_toArray, List.length_cons, List.length_nil, Array.size_setIfInBounds] <;> omega))), by (repeat (first | (with_reducible assumption) | (with_reducible exact box_new _ _ _) | ((with_reducible apply box_at); (first | (with_reducible rfl) | (simp <;> omega))) | (with_reducible apply Box.drew) | (with_reducible apply Box.drewN) | (with_reducible apply Box.near) | (with_reducible apply Box.alloc) | ((with_reducible apply box_far); (first | assumption | omega | (simp <;> omega))) | (with_reducible apply Box.set) | (simp only [List.size_toArray, List.length_cons, List.length_nil, Array.size_setIfInBounds] <;> omega))), by (repeat (first | (with_reducible assumption) | (with_reducible exact box_new _ _ _) | ((with_reducible apply box_at); (first | (with_reducible rfl) | (simp <;> omega))) | (with_reducible apply Box.drew) | (with_reducible apply Box.drewN) | (with_reducible apply Box.near) | (with_reducible apply Box.alloc) | ((with_reducible apply box_far); (first | assumption | omega | (simp <;> omega))) | (with_reducible apply Box.set) | (simp only [List.size_toArray, List.length_cons, List.length_nil, Array.size_setIfInBounds] <;> omega)))⟩
      | exact ⟨W.heap.size + 1 + 1, W.heap.size + 1, rfl, rfl, rfl, by omega, by omega, by omega, by (repeat (first | (with_reducible exact Below.refl _ _) | (with_reducible assumption) | (with_reducible refine Near.up _ ?_) | (with_reducible refine Below.drew ?_) | (with_reducible refine below_alloc_on ?_ _) | (with_reducible refine below_set_on ?_ (by first | (simp; done) | (simp; omega) | omega) _))), by (repeat (first | (with_reducible assumption) | (with_reducible exact box_new _ _ _) | ((with_reducible apply box_at); (first | (with_reducible rfl) | (simp <;> omega))) | (with_reducible apply Box.drew) | (with_reducible apply Box.drewN) | (with_reducible apply Box.near) | (with_reducible apply Box.alloc) | ((with_reducible apply box_far); (first | assumption | omega | (simp <;> omega))) | (with_reducible apply Box.set) | (simp only [List.size_toArray, List.length_cons, List.length_nil, Array.size_setIfInBounds] <;> omega))), by (repeat (first | (with_reducible assumption) | (with_reducible exact box_new _ _ _) | ((with_reducible apply box_at); (first | (with_reducible rfl) | (simp <;> omega))) | (with_reducible apply Box.drew) | (with_reducible apply Box.drewN) | (with_reducible apply Box.near) | (with_reducible apply Box.alloc) | ((with_reducible apply box_far); (first | assumption | omega | (simp <;> omega))) | (with_reducible apply Box.set) | (simp only [List.size_toArray, List.length_cons, List.length_nil, Array.size_setIfInBounds] <;> omega))), by (repeat (first | (with_reducible assumption) | (with_reducible exact box_new _ _ _) | ((with_reducible apply box_at); (first | (with_reducible rfl) | (simp <;> omega))) | (with_reducible apply Box.drew) | (with_reducible apply Box.drewN) | (with_reducible apply Box.near) | (with_reducible apply Box.alloc) | ((with_reducible apply box_far); (first | assumption | omega | (simp <;> omega))) | (with_reducible apply Box.set) | (simp only [List.size_toArray, List.length_cons, List.length_nil, Array.size_setIfInBounds] <;> omega)))⟩
  case rest =>
    obtain ⟨g, h, rfl, rfl, rfl, hg, hh, hgh, A, M, B, C⟩ := hcut
    clear M0
    have HB := Lib.hid (fun j (hj : j ≤ n) => sm_bd (f := fun i => ss.getD i 0) HX.out hj)
    have HB2 := Lib.hid (fun j (hj : j ≤ n) => sm_bd (f := fun i => ss.getD (n - 1 - i) 0) (fun i hi => HX.out (n - 1 - i) (by omega)) hj)
    go_wp2_with (fail)
    go_loopg [6, 17] n (fun k s i wr => ∃ j : Nat, j ≤ n ∧ k = n - j ∧ i = .int .i64 j ∧ s = .int .i64 (2 * sm (fun i => ss.getD i 0) j) ∧ Below W.heap.size W wr ∧ Box wr W.heap.size #[.int .i64 9830400] ∧ Box wr g #[.int .i64 (9830400 + 2 * sm (fun i => ss.getD i 0) j)] ∧ Box wr h #[.int .i64 (9830400 + 2 * sm (fun i => ss.getD (n - 1 - i) 0) j)])
    case atStart => exact ⟨0, Nat.zero_le _, rfl, rfl, rfl, A, M, B, C⟩
    case round =>
      clear A M B C
      obtain ⟨j, hj, rfl, rfl, rfl, A, M, B, C⟩ := hrel
      have b1 := HB.out j hj
      have b2 := HB2.out j hj
      obtain ⟨x, hx⟩ : ∃ x, sm (fun i => ss.getD i 0) j = x := ⟨_, rfl⟩
      obtain ⟨y, hy⟩ : ∃ y, sm (fun i => ss.getD (n - 1 - i) 0) j = y := ⟨_, rfl⟩
      rw [hx] at B b1 ⊢
      rw [hy] at C b2
      by_cases hlt : j < n
      · obtain ⟨k, hk⟩ : ∃ k : Nat, (n : Int) - 1 - j = k := ⟨n - 1 - j, by omega⟩
        have hkn : k < n := by omega
        have hkj : n - 1 - j = k := by omega
        obtain ⟨bl, off, rfl, hbs, hck⟩ := HI.out.at_ hlt
        obtain ⟨bl2, off2, e2, _, hck2⟩ := HI.out.at_ hkn
        cases e2
        replace hck := (A.cell (p := ⟨bl, off + j, none⟩) hbs).trans hck
        replace hck2 := (A.cell (p := ⟨bl, off + k, none⟩) hbs).trans hck2
        have HX1 := Lib.hid (show sm (fun i => ss.getD i 0) (j + 1) = x + ss.getD j 0 by rw [sm, hx])
        have HY1 := Lib.hid (show sm (fun i => ss.getD (n - 1 - i) 0) (j + 1) = y + ss.getD k 0 by rw [sm, hy, hkj])
        obtain ⟨u0, u1⟩ := HX.out j hlt
        obtain ⟨v0, v1⟩ := HX.out k hkn
        generalize ss.getD j 0 = z at *
        generalize ss.getD k 0 = v at *
        have zb : bl < wr.heap.size := Nat.lt_of_lt_of_le hbs A.size
        have hw1 : IntKind.i64.wrap z = z := IntWalk.i64_in _ (by omega)
        have hw2 : IntKind.i64.wrap v = v := IntWalk.i64_in _ (by omega)
        have hw3 : IntKind.i64.wrap ((n : Int) - 1) = n - 1 := IntWalk.i64_in _ (by omega)
        have hw4 : IntKind.i64.wrap (k : Int) = k := IntWalk.i64_in _ (by omega)
        have HP := Lib.hid (fun w => pi_step (9830400 + 2 * x) z 16 2 w)
        have HQ := Lib.hid (fun w => pi_step (9830400 + 2 * y) v 16 2 w)
        rw [pi_sm (by omega) (by omega) (by omega) (by omega) (.inl rfl), if_neg (by omega), cou_in (by omega) (by omega), show 9830400 + 2 * x + 2 * z = 9830400 + 2 * (x + z) by omega] at HP
        rw [pi_sm (by omega) (by omega) (by omega) (by omega) (.inl rfl), if_neg (by omega), cou_in (by omega) (by omega), show 9830400 + 2 * y + 2 * v = 9830400 + 2 * (y + v) by omega] at HQ
        obtain ⟨lB, cB, fB⟩ := id B
        obtain ⟨lC, cC, fC⟩ := id C
        clear hx hy hkj
        go_wp2
        refine wp_region_calm_fan 7 _ _ rfl rfl (by kernel_rfl) (by kernel_rfl) (fun _ _ _ _ h => h) (fun _ _ _ _ h => h) ?_
        simp only [List.take_succ_cons, List.take_zero, List.drop_succ_cons, List.drop_zero]
        repeat (go_big_quiet_step (((go_at_call 24; exact calm_of _ (HP.out _)))))
        refine wpQuiet_nil ?_
        apply Exists.intro
        apply Exists.intro
        refine ⟨Or.inl ⟨rfl, fun w => ?_⟩, Or.inl ⟨rfl, fun w => ?_⟩, ?_⟩
        · go_simp
          rfl
        · go_simp
          rfl
        intro _ hw'
        obtain ⟨u, rfl⟩ := hw'
        go_wp2_with (fail)
        have A2 := below_set_on (u.up A) (p := ⟨g, 0, none⟩) (by simp <;> omega) (.int .i64 (9830400 + 2 * (x + z)))
        have M2 := (M.near u).far (p := ⟨g, 0, none⟩) (by simp <;> omega) (.int .i64 (9830400 + 2 * (x + z)))
        have B2 := (B.near u).set (i := 0) (by simp) (.int .i64 (9830400 + 2 * (x + z)))
        have C2 := (C.near u).far (p := ⟨g, 0, none⟩) (by simp <;> omega) (.int .i64 (9830400 + 2 * (x + z)))
        simp only [List.setIfInBounds_toArray, List.set_cons_zero] at B2
        have k2 : (u.at_.setCell ⟨g, 0, none⟩ (.int .i64 (9830400 + 2 * (x + z)))).cell? ⟨bl, off + k, none⟩ = some (.int .i16 v) := by
          rw [World.cell?_setCell_other _ _ _ _ (by simp <;> omega)]
          exact (u.cell (p := ⟨bl, off + k, none⟩) zb).trans hck2
        have k1 : (u.at_.setCell ⟨g, 0, none⟩ (.int .i64 (9830400 + 2 * (x + z)))).cell? ⟨bl, off + j, none⟩ = some (.int .i16 z) := by
          rw [World.cell?_setCell_other _ _ _ _ (by simp <;> omega)]
          exact (u.cell (p := ⟨bl, off + j, none⟩) zb).trans hck
        have hne : ¬ h = bl := by omega
        have zb2 : bl < (u.at_.setCell ⟨g, 0, none⟩ (.int .i64 (9830400 + 2 * (x + z)))).heap.size := by
          rw [size_setCell]; exact Nat.lt_of_lt_of_le zb u.size
        generalize u.at_.setCell ⟨g, 0, none⟩ (.int .i64 (9830400 + 2 * (x + z))) = w2 at *
        clear hck hck2 zb lB cB fB lC cC fC u A M B C HP
        obtain ⟨lB, cB, fB⟩ := id B2
        obtain ⟨lC, cC, fC⟩ := id C2
        refine wp_region_calm_fan 11 _ _ rfl rfl (by kernel_rfl) (by kernel_rfl) (fun _ _ _ _ h => h) (fun _ _ _ _ h => h) ?_
        simp only [List.take_succ_cons, List.take_zero, List.drop_succ_cons, List.drop_zero]
        repeat (go_big_quiet_step (((go_at_call 24; exact calm_of _ (HQ.out _)))))
        refine wpQuiet_nil ?_
        apply Exists.intro
        apply Exists.intro
        refine ⟨Or.inl ⟨rfl, fun w => ?_⟩, Or.inl ⟨rfl, fun w => ?_⟩, ?_⟩
        · go_simp
          rfl
        · go_simp
          rfl
        intro _ hw'
        obtain ⟨u, rfl⟩ := hw'
        have A3 := below_set_on (u.up A2) (p := ⟨h, 0, none⟩) (by simp <;> omega) (.int .i64 (9830400 + 2 * (y + v)))
        have M3 := (M2.near u).far (p := ⟨h, 0, none⟩) (by simp <;> omega) (.int .i64 (9830400 + 2 * (y + v)))
        have C3 := (C2.near u).set (i := 0) (by simp) (.int .i64 (9830400 + 2 * (y + v)))
        have B3 := (B2.near u).far (p := ⟨h, 0, none⟩) (by simp <;> omega) (.int .i64 (9830400 + 2 * (y + v)))
        simp only [List.setIfInBounds_toArray, List.set_cons_zero] at C3
        go_wp2
        go_roundg (n - (j + 1))
        case rel => exact ⟨j + 1, by omega, rfl, by go_num, by rw [HX1.out]; go_num, A3, M3, by rw [HX1.out]; exact B3, by rw [HY1.out]; exact C3⟩
        case measure => omega
      · obtain rfl : j = n := by omega
        have hr := sm_rev (fun i => ss.getD i 0) j
        rw [hx, hy] at hr
        obtain rfl := hr
        have t1 : (9830400 + 2 * y == 9830400 + 2 * y) = true := by simp
        clear hx hy
        obtain ⟨lM, cM, fM⟩ := id M
        obtain ⟨lB, cB, fB⟩ := id B
        obtain ⟨lC, cC, fC⟩ := id C
        go_wp2_with (fail)
        refine (law27_awake _).mono ?_
        rintro e w2 ⟨rfl, hb⟩
        replace A : Below W.heap.size W w2 := by (refine below_call ?_ hb; (repeat (first | (with_reducible exact Below.refl _ _) | (with_reducible assumption) | (with_reducible refine Near.up _ ?_) | (with_reducible refine Below.drew ?_) | (with_reducible refine below_alloc_on ?_ _) | (with_reducible refine below_set_on ?_ (by first | (simp; done) | (simp; omega) | omega) _))))
        clear hb
        have z_w2 : W.heap.size ≤ w2.heap.size := A.size
        go_wp2
        all_goals go_ret
        all_goals exact ⟨rfl, A⟩
theorem walk (W : World) (A : Option Addr) (n c : Nat) (ss : List Int) (hi : Nums .i16 W A n ss) (hc : n ≤ c) (hr : n * 2 ≤ 140737488351232) (wx : ∀ x ∈ ss, (Lit.int .i16 x).wf = true) :
    Calls Try.prog 9 #[.slice A n c] W fun e W' => e = .returned (.bool true) ∧ Below W.heap.size W W' := by
  by_cases h : 60 < n
  · have t1 : decide (60 < (n : Int)) = true := decide_eq_true (by omega)
    clear hi wx
    go_enter Try.func9, Try.ntmps9
    go_wp2_with (fail)
    refine (law27_awake _).mono ?_
    rintro e w3 ⟨rfl, hb⟩
    go_wp2
    all_goals go_ret
    all_goals exact ⟨rfl, hb⟩
  · exact some_ W A n c ss hi hc (by omega) wx

theorem lifted (os : Os) (started : os.Started) (H : Type) (enc : TypeId × Value → H) :
    ReturnsInHanded {} Try.checked os 9 .any (Rows.piSumsSpec.pre6 enc Try.prog Try.f9 Rows.piSumsRow.domain false) (Rows.piSumsSpec.post enc Try.prog Try.f9 false true false false) := by
  refine law_lift started (by kernel_rfl) Try.func9 rfl rfl ?_ (by kernel_rfl)
    (ChangeSpec.witness6 (enc := enc) (C := Try.checked) false ⟨#[], #[.slice none 0 0], []⟩ 8 (by kernel_rfl) (by kernel_rfl) (by kernel_rfl) (by kernel_rfl)) ?_
  · intro ds hl
    match ds, hl with
    | [_], _ => exact ⟨rfl, rfl, rfl⟩
  · intro W base args ds p hval hA hlt hwt
    rw [Try.params9] at hA hval hwt
    obtain ⟨v0, vs0, d0, ds0, p0, q0, hargs, rfl, rfl, h0, r0⟩ := trodAll_cons hA
    obtain ⟨rfl, rfl, rfl⟩ := trodAll_nil r0
    obtain rfl : args = #[v0] := by cases args; simp_all
    have wt0 : ∀ n ∈ d0.weights Try.prog 52, n ≤ reachBytes := fun n hn => by
      have := List.all_eq_true.1 hwt n (DataW.weights_mem_each (j := 0) (t := 52) (d := d0) rfl rfl n hn)
      simpa using this
    have lt0 : ∀ x ∈ p0, x.block < W.heap.size := fun x hx => hlt x (by simp [hx])
    obtain ⟨A0, n0, c0, xs0, rfl, hi0, hc0, hr0, w0⟩ := open_nums_arg Try.underlying52 Try.underlying53 (by kernel_rfl) (by kernel_rfl) (hval 0 52 v0 rfl rfl) h0 lt0 wt0
    exact walk W A0 n0 c0 xs0 hi0 hc0 hr0 w0

theorem over : Rows.piSumsRow.holds Try.pinned (OpenSpec.ofChange Rows.piSumsSpec) :=
  OpenClaim.holds_of_wide 9 Try.f9 rfl rfl rfl rfl rfl rfl rfl ⟨rfl, rfl, rfl, rfl, rfl⟩ rfl rfl rfl rfl rfl (by kernel_rfl) Try.func9 (by kernel_rfl)
    (of_decide_eq_true (by kernel_rfl)) (by unfold Func.isWrapper; first | (rw [if_pos (by decide +kernel)]; kernel_rfl) | (rw [if_neg (by decide +kernel)]; exact ⟨rfl, rfl⟩))
    (fun os started H enc _ => lifted os started H enc)

theorem proved : Rows.PiSumsSaid := over
#print axioms proved
end Go.Proofs.Ytmojkehedkhdbaa.piSums
