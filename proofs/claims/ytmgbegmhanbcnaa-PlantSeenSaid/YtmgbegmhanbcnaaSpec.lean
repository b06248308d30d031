/- Contracts of package spec. -/
import Derived.Test.YtmgbegmhanbcnaaLaw22
import Derived.Test.YtmgbegmhanbcnaaGrown
import Derived.Test.YtmgbegmhanbcnaaTruths
import Derived.Test.YtmgbegmhanbcnaaCalm
import Derived.Test.YtmgbegmhanbcnaaWorld
import Derived.Deep.CutBlock
import Derived.Deep.DeepCutAuto
import Derived.Deep.LoopGhost
namespace Go.Proofs.Ytmgbegmhanbcnaa
open Go.RowKit
set_option linter.unusedVariables false
set_option linter.unusedSimpArgs false
set_option maxRecDepth 100000

/-- A made list: what stands in each place. -/
structure Col (w : World) (g n : Nat) (F : Nat → Value) : Prop where
  lt : g < w.heap.size
  cell : ∀ i, i < n → w.cell? ⟨g, i, none⟩ = some (F i)
  frz : ∀ i, w.frozen? ⟨g, i, none⟩ = false
namespace Col
variable {w w' : World} {g n : Nat} {F G : Nat → Value}
theorem below (h : Col w g n F) (hb : Below w.heap.size w w') : Col w' g n F :=
  ⟨Nat.lt_of_lt_of_le h.lt hb.size, fun i hi => (hb.cell (p := ⟨g, i, none⟩) h.lt).trans (h.cell i hi), fun i => (hb.frozen (p := ⟨g, i, none⟩) h.lt).trans (h.frz i)⟩
theorem alloc (h : Col w g n F) (o : Obj) : Col (w.alloc o) g n F := h.below (below_alloc_on (Below.refl _ _) o)
theorem drew (h : Col w g n F) : Col w.drew g n F := ⟨h.lt, h.cell, h.frz⟩
theorem far (h : Col w g n F) {p : Addr} (hp : p.block ≠ g) (v : Value) : Col (w.setCell p v) g n F :=
  ⟨by rw [size_setCell]; exact h.lt, fun i hi => (World.cell?_setCell_other w p _ v (fun e => hp (congrArg Addr.block e))).trans (h.cell i hi), fun i => (World.frozen?_setCell _ _ _ _).trans (h.frz i)⟩
theorem set (h : Col w g n F) {k : Nat} (hk : k < n) (v : Value) : Col (w.setCell ⟨g, k, none⟩ v) g n (fun i => if i = k then v else F i) := by
  refine ⟨by rw [size_setCell]; exact h.lt, fun i hi => ?_, fun i => (World.frozen?_setCell _ _ _ _).trans (h.frz i)⟩
  by_cases e : i = k
  · subst e
    rw [if_pos rfl, World.cell?_setCell_same w _ _ (h.cell i hi)]
  · rw [if_neg e, World.cell?_setCell_other w _ _ _ (fun q => e (by have := congrArg Addr.off q; simp at this; omega))]
    exact h.cell i hi
theorem congr (h : Col w g n F) (e : ∀ i, i < n → F i = G i) : Col w g n G := ⟨h.lt, fun i hi => by rw [← e i hi]; exact h.cell i hi, h.frz⟩
end Col
theorem col_new (w : World) (n : Nat) (z : Value) (t : TypeId) : Col (w.alloc (.cells (madeCells #[z] n) t)) w.heap.size n (fun _ => z) := by
  refine ⟨by simp, fun i hi => ?_, fun i => ?_⟩
  · rw [World.cell?_alloc_at _ _ _ _ rfl]
    unfold madeCells
    rw [Array.getElem?_map, Array.getElem?_range, if_pos hi]
    simp [Nat.mod_one]
  · rw [frozen?_alloc_cells]
    unfold World.frozen?
    rw [Array.getElem?_eq_none (Nat.le_refl _)]
theorem col_at {w : World} {n g : Nat} {z : Value} {t : TypeId} (h : w.heap.size = g) : Col (w.alloc (.cells (madeCells #[z] n) t)) g n (fun _ => z) := h ▸ col_new w n z t
theorem Col.ints {w : World} {g n : Nat} {f : Nat → Int} (h : Col w g n (fun i => .int .i64 (f i))) : Ints w (some ⟨g, 0, none⟩) n ((List.range n).map f) := by
  refine ⟨by simp, fun _ => ⟨g, 0, rfl, h.lt, fun i hi => ?_⟩⟩
  rw [Nat.zero_add, h.cell i hi]
  simp [List.getD, hi]
theorem Col.truths {w : World} {g n : Nat} {f : Nat → Bool} (h : Col w g n (fun i => .bool (f i))) : Truths w (some ⟨g, 0, none⟩) n ((List.range n).map f) := by
  refine ⟨by simp, fun _ => ⟨g, 0, rfl, h.lt, fun i hi => ?_⟩⟩
  rw [Nat.zero_add, h.cell i hi]
  simp [List.getD, hi]

/-- The level behind tick t; whether it is shaded. -/
def lvF (xs : List Int) (t : Nat) : Int := cbV (gzAt xs (t + 1)).ba / 64
def shF (xs : List Int) (t : Nat) : Bool := gzS (gzAt xs t) (xs.getD t 0)
theorem gz_bg (xs : List Int) : ∀ k, (gzAt xs k).bg = decide (0 < k)
  | 0 => rfl
  | k + 1 => by rw [decide_eq_true (by omega)]; rfl
theorem gzN_sh (e : Gz) (a : Int) : (gzN e a).sh = gzS e a := by exact rfl
theorem gzN_ba (e : Gz) (a : Int) : (gzN e a).ba = eyN (eyB e.bg e.ba a) a (gzS e a) := by exact rfl
theorem gz_sh (xs : List Int) (k : Nat) : (gzAt xs (k + 1)).sh = shF xs k := by
  show (gzN (gzAt xs k) (xs.getD k 0)).sh = gzS (gzAt xs k) (xs.getD k 0)
  exact gzN_sh _ _
theorem gz_ba (xs : List Int) (k : Nat) : (gzAt xs (k + 1)).ba = eyN (eyB (gzAt xs k).bg (gzAt xs k).ba (xs.getD k 0)) (xs.getD k 0) (shF xs k) := by
  show (gzN (gzAt xs k) (xs.getD k 0)).ba = _
  exact gzN_ba _ _
theorem sh_form (xs : List Int) (k : Nat) : shF xs k = shdB (cbV (eyB (gzAt xs k).bg (gzAt xs k).ba (xs.getD k 0)) / 64) (xs.getD k 0) (gzAt xs k).sh := by
  unfold shF gzS eyS
  rfl

attribute [local go_sem] cell_set_ite Near.cell Near.frozen
set_option maxHeartbeats 2000000 in
theorem sp_follow (A : Option Addr) (n c : Nat) (xs : List Int) (w : World) (h : Ints w A n xs) (hn : n ≤ 100000) :
    Calls Try.prog 24 #[.slice A n c] w fun e w' => ∃ g h, e = .returned (.tuple #[.slice (some ⟨g, 0, none⟩) n n, .slice (some ⟨h, 0, none⟩) n n]) ∧ Col w' g n (fun i => .int .i64 (lvF xs i)) ∧ Col w' h n (fun i => .bool (shF xs i)) ∧ Below w.heap.size w w' := by
  have HI := Lib.hid h
  obtain ⟨i0, hi0, hz0, hz1, hz2⟩ := info_parts int_info
  obtain ⟨j0, hj0, hy0, hy1, hy2⟩ := info_parts truth_info
  have hmk := fun w => run_make (P := Try.prog) w 22 3 i0 _ Try.underlying22 hi0 hz0 .i64 .i64 n n (by omega) (by omega) (by rw [hz2]; omega) (by omega)
  have hmt := fun w => run_make (P := Try.prog) w 23 4 j0 _ Try.underlying23 hj0 hy0 .i64 .i64 n n (by omega) (by omega) (by rw [hy2]; omega) (by omega)
  simp only [hz1, hy1, Int.toNat_natCast, Nat.mul_one, show (Value.int .i64 0).cells = #[.int .i64 0] from rfl, show (Value.bool false).cells = #[.bool false] from rfl] at hmk hmt
  clear h hz0 hz1 hz2 hi0 hy0 hy1 hy2 hj0
  go_enter Try.func24, Try.ntmps24
  go_upto_region 1 with (fail)
  go_cut [4, 5] (fun a b wx => ∃ g h, a = .slice (some ⟨g, 0, none⟩) n n ∧ b = .slice (some ⟨h, 0, none⟩) n n ∧ w.heap.size ≤ g ∧ w.heap.size ≤ h ∧ g ≠ h ∧ Col wx g n (fun _ => .int .i64 0) ∧ Col wx h n (fun _ => .bool false) ∧ Below w.heap.size w wx)
  case first =>
    go_region
    · go_wp2_with (fail)
      go_meet
      exact ⟨w.heap.size, w.heap.size + 1, rfl, rfl, by omega, by omega, by omega, ((col_new _ _ _ _).alloc _).drew, (col_at (by simp)).drew, by (repeat (first | (with_reducible exact Below.refl _ _) | (with_reducible assumption) | (with_reducible refine Near.up _ ?_) | (with_reducible refine Below.drew ?_) | (with_reducible refine below_alloc_on ?_ _) | (with_reducible refine below_set_on ?_ (by first | (simp; done) | (simp; omega) | omega) _)))⟩
    · go_wp2_with (fail)
      go_meet
      exact ⟨w.heap.size + 1, w.heap.size, rfl, rfl, by omega, by omega, by omega, (col_at (by simp)).drew, ((col_new _ _ _ _).alloc _).drew, by (repeat (first | (with_reducible exact Below.refl _ _) | (with_reducible assumption) | (with_reducible refine Near.up _ ?_) | (with_reducible refine Below.drew ?_) | (with_reducible refine below_alloc_on ?_ _) | (with_reducible refine below_set_on ?_ (by first | (simp; done) | (simp; omega) | omega) _)))⟩
  case rest =>
    clear hmk hmt
    obtain ⟨g, h, rfl, rfl, wg, wh, gh, C1, D1, A1⟩ := hcut
    have hg : h ≠ g := fun e => gh e.symm
    go_wp2
    go_loopg [6, 7, 18] n (fun gk x y i wr => ∃ k : Nat, k ≤ n ∧ gk = n - k ∧ i = .int .i64 k ∧ x = .int .i64 (gzAt xs k).ba ∧ y = .bool (gzAt xs k).sh ∧ Below w.heap.size w wr ∧ Col wr g n (fun i => if i < k then .int .i64 (lvF xs i) else .int .i64 0) ∧ Col wr h n (fun i => if i < k then .bool (shF xs i) else .bool false))
    case atStart => exact ⟨0, by omega, rfl, rfl, rfl, rfl, A1, C1.congr (fun i _ => by rw [if_neg (by omega)]), D1.congr (fun i _ => by rw [if_neg (by omega)])⟩
    case round =>
      clear C1 D1 A1
      obtain ⟨k, hk, rfl, rfl, rfl, rfl, A1, C1, D1⟩ := hrel
      by_cases hlt : k < n
      · obtain ⟨b, off, rfl, hbs, hcell⟩ := HI.out.2 (by omega)
        have hck := (A1.cell (p := ⟨b, off + k, none⟩) hbs).trans (hcell k hlt)
        clear hcell
        have HC := Lib.hid C1
        have HD := Lib.hid D1
        obtain ⟨B0, hB0⟩ : ∃ B0, eyB (gzAt xs k).bg (gzAt xs k).ba (xs.getD k 0) = B0 := ⟨_, rfl⟩
        have H1 := Lib.hid (fun w => am_level B0 w)
        have H2 := Lib.hid (show ∀ w, Calls Try.prog 32 #[.int .i64 (cbV B0 / 64), .int .i64 (xs.getD k 0), .bool (gzAt xs k).sh] w fun e w' => e = .returned (.bool (shF xs k)) ∧ w = w' from fun w => by rw [sh_form, hB0]; exact cp_shaded _ _ _ w)
        have H3 := Lib.hid (show ∀ w, Calls Try.prog 34 #[.int .i64 B0, .int .i64 (xs.getD k 0), .bool (shF xs k)] w fun e w' => e = .returned (.int .i64 (gzAt xs (k + 1)).ba) ∧ Below w.heap.size w w' from fun w => by rw [gz_ba, hB0]; exact am_any _ _ _ w)
        have H4 := Lib.hid (show ∀ w, Calls Try.prog 33 #[.int .i64 (gzAt xs (k + 1)).ba] w fun e w' => e = .returned (.int .i64 (lvF xs k)) ∧ w = w' from fun w => am_level _ w)
        have H0 := Lib.hid (fun w => am_start (xs.getD k 0) w)
        have HSH := Lib.hid (gz_sh xs k)
        rw [gz_bg] at hB0
        obtain ⟨B1, hB1⟩ : ∃ B1, (gzAt xs (k + 1)).ba = B1 := ⟨_, rfl⟩
        obtain ⟨S, hS⟩ : ∃ S, shF xs k = S := ⟨_, rfl⟩
        obtain ⟨L, hL⟩ : ∃ L, lvF xs k = L := ⟨_, rfl⟩
        rw [hB1] at H3 H4
        rw [hS] at H2 H3
        rw [hL] at H4
        have HB1 := Lib.hid hB1
        have HSS := Lib.hid hS
        have HL := Lib.hid hL
        clear hB1 hS hL C1 D1
        generalize xs.getD k 0 = a at *
        generalize (gzAt xs k).ba = ba at *
        generalize (gzAt xs k).sh = sh at *
        by_cases hk0 : k = 0
        · have t1 : ((k : Int) == 0) = true := by simp [hk0]
          rw [decide_eq_false (by omega)] at hB0
          rw [show 64 * lgV a = B0 from hB0] at H0
          clear hB0 hk0
          go_wp2_with (first | (go_at_call 31; refine (H0.out _).mono ?_; rintro e w' ⟨rfl, rfl⟩) | (go_at_call 33; with_reducible refine (H1.out _).mono ?_; rintro e w' ⟨rfl, rfl⟩) | (go_at_call 32; refine (H2.out _).mono ?_; rintro e w' ⟨rfl, rfl⟩))
          refine (H3.out _).mono ?_
          rintro e w3 ⟨rfl, hb⟩
          have C3 := HC.out.below hb
          have D3 := HD.out.below hb
          have A3 := below_call A1 hb
          have c0 : w3.cell? ⟨g, k, none⟩ = some (.int .i64 0) := by rw [C3.cell k hlt, if_neg (by omega)]
          have d0 : w3.cell? ⟨h, k, none⟩ = some (.bool false) := by rw [D3.cell k hlt, if_neg (by omega)]
          have fC := C3.frz
          have fD := D3.frz
          have C5 := Lib.hid (((C3.set hlt (.int .i64 L)).far (p := ⟨h, k, none⟩) hg (.bool S)).congr (G := fun i => if i < k + 1 then .int .i64 (lvF xs i) else .int .i64 0) (fun i hi => by
            by_cases e : i = k
            · subst e; rw [if_pos rfl, if_pos (by omega), HL.out]
            · rw [if_neg e]
              by_cases e2 : i < k
              · rw [if_pos e2, if_pos (by omega)]
              · rw [if_neg e2, if_neg (by omega)]))
          have D5 := Lib.hid (((D3.far (p := ⟨g, k, none⟩) gh (.int .i64 L)).set hlt (.bool S)).congr (G := fun i => if i < k + 1 then .bool (shF xs i) else .bool false) (fun i hi => by
            by_cases e : i = k
            · subst e; rw [if_pos rfl, if_pos (by omega), HSS.out]
            · rw [if_neg e]
              by_cases e2 : i < k
              · rw [if_pos e2, if_pos (by omega)]
              · rw [if_neg e2, if_neg (by omega)]))
          clear hb C3 D3 A1 hck
          go_wp2_with (go_at_call 33; with_reducible refine (H4.out _).mono ?_; rintro e w' ⟨rfl, rfl⟩)
          go_roundg (n - (k + 1))
          case measure => omega
          case rel => exact ⟨k + 1, by omega, by omega, by go_num, by rw [HB1.out], by rw [HSH.out, HSS.out], by (repeat (first | (with_reducible exact Below.refl _ _) | (with_reducible assumption) | (with_reducible refine Near.up _ ?_) | (with_reducible refine Below.drew ?_) | (with_reducible refine below_alloc_on ?_ _) | (with_reducible refine below_set_on ?_ (by first | (simp; done) | (simp; omega) | omega) _))), C5.out, D5.out⟩
        · have t1 : ((k : Int) == 0) = false := by simpa using hk0
          rw [decide_eq_true (by omega)] at hB0
          rw [show ba = B0 from hB0]
          clear hB0 hk0
          go_wp2_with (first | (go_at_call 31; refine (H0.out _).mono ?_; rintro e w' ⟨rfl, rfl⟩) | (go_at_call 33; with_reducible refine (H1.out _).mono ?_; rintro e w' ⟨rfl, rfl⟩) | (go_at_call 32; refine (H2.out _).mono ?_; rintro e w' ⟨rfl, rfl⟩))
          refine (H3.out _).mono ?_
          rintro e w3 ⟨rfl, hb⟩
          have C3 := HC.out.below hb
          have D3 := HD.out.below hb
          have A3 := below_call A1 hb
          have c0 : w3.cell? ⟨g, k, none⟩ = some (.int .i64 0) := by rw [C3.cell k hlt, if_neg (by omega)]
          have d0 : w3.cell? ⟨h, k, none⟩ = some (.bool false) := by rw [D3.cell k hlt, if_neg (by omega)]
          have fC := C3.frz
          have fD := D3.frz
          have C5 := Lib.hid (((C3.set hlt (.int .i64 L)).far (p := ⟨h, k, none⟩) hg (.bool S)).congr (G := fun i => if i < k + 1 then .int .i64 (lvF xs i) else .int .i64 0) (fun i hi => by
            by_cases e : i = k
            · subst e; rw [if_pos rfl, if_pos (by omega), HL.out]
            · rw [if_neg e]
              by_cases e2 : i < k
              · rw [if_pos e2, if_pos (by omega)]
              · rw [if_neg e2, if_neg (by omega)]))
          have D5 := Lib.hid (((D3.far (p := ⟨g, k, none⟩) gh (.int .i64 L)).set hlt (.bool S)).congr (G := fun i => if i < k + 1 then .bool (shF xs i) else .bool false) (fun i hi => by
            by_cases e : i = k
            · subst e; rw [if_pos rfl, if_pos (by omega), HSS.out]
            · rw [if_neg e]
              by_cases e2 : i < k
              · rw [if_pos e2, if_pos (by omega)]
              · rw [if_neg e2, if_neg (by omega)]))
          clear hb C3 D3 A1 hck
          go_wp2_with (go_at_call 33; with_reducible refine (H4.out _).mono ?_; rintro e w' ⟨rfl, rfl⟩)
          go_roundg (n - (k + 1))
          case measure => omega
          case rel => exact ⟨k + 1, by omega, by omega, by go_num, by rw [HB1.out], by rw [HSH.out, HSS.out], by (repeat (first | (with_reducible exact Below.refl _ _) | (with_reducible assumption) | (with_reducible refine Near.up _ ?_) | (with_reducible refine Below.drew ?_) | (with_reducible refine below_alloc_on ?_ _) | (with_reducible refine below_set_on ?_ (by first | (simp; done) | (simp; omega) | omega) _))), C5.out, D5.out⟩
      · obtain rfl : k = n := by omega
        have HC := Lib.hid (C1.congr (G := fun i => .int .i64 (lvF xs i)) (fun i hi => if_pos hi))
        have HD := Lib.hid (D1.congr (G := fun i => .bool (shF xs i)) (fun i hi => if_pos hi))
        clear C1 D1
        go_wp2
        exact bodyPost_ret (v := .tuple #[.slice (some ⟨g, 0, none⟩) k k, .slice (some ⟨h, 0, none⟩) k k]) (by simp [results, Try.results24, go_sem]) rfl ⟨g, h, rfl, HC.out, HD.out, A1⟩
end Go.Proofs.Ytmgbegmhanbcnaa
