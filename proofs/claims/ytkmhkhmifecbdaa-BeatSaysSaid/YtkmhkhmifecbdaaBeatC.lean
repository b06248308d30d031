/- Contracts of package beat: the time from drop to drop. A beat is '.agg' of three: any, last, and a list of times. -/
import Derived.Test.YtkmhkhmifecbdaaMed
import Derived.Test.YtkmhkhmifecbdaaRate
import Derived.Test.YtkmhkhmifecbdaaLeaf
import Derived.Test.YtkmhkhmifecbdaaBx
namespace Go.Proofs.Ytkmhkhmifecbdaa
set_option maxRecDepth 100000
open Go.RowKit
set_option linter.unusedVariables false
set_option linter.unusedSimpArgs false
attribute [local go_sem] cell_set_ite Near.cell Near.frozen
attribute [local go_sem ↓] Go.wp_at_zero Go.wp_at_succ

/-- For how many ticks there was no drop. -/
def sinV (t l : Int) : Int := max (subV t l) 1
theorem sinV_bd (t l : Int) : 1 ≤ sinV t l ∧ sinV t l ≤ 9007199254740992 := by
  unfold sinV subV
  have := clV_bd (clV t - clV l)
  omega
/-- The last times, behind a drop. -/
def timV (q : Bool) (xs : List Int) (l t : Int) : List Int := if q then pushL xs 5 (sinV t l) else lastL xs 5
def gapB (q : Bool) (n : Nat) : Bool := q && anyB n
def gapV (q : Bool) (n : Nat) (xs : List Int) (l t : Int) : Int := if gapB q n then max (midV xs) (sinV t l) else 0
def rtV (q : Bool) (n : Nat) (xs : List Int) (l t f : Int) : Int := if gapB q n then shV (gapV q n xs l t) f else 0
def rtB (q : Bool) (n : Nat) (xs : List Int) (l t f : Int) : Bool := gapB q n && shB (gapV q n xs l t) f

/-- An answer that is a beat, its times a list of its own. -/
def NewBeat (w : World) (q : Bool) (l : Int) (ys : List Int) (e : Ending) (w' : World) : Prop :=
  ∃ B d, e = .returned (.agg #[.bool q, .int .i64 l, .slice B ys.length d]) ∧ ys.length ≤ d ∧ w'.ownsRow w.heap.size 3 1 (.slice B ys.length d) ys.length (ys.map (Value.int .i64)) ∧ Below w.heap.size w w'
theorem NewBeat.ints {w w' : World} {q : Bool} {l : Int} {ys : List Int} {e : Ending} (h : NewBeat w q l ys e w') : ∃ B d, e = .returned (.agg #[.bool q, .int .i64 l, .slice B ys.length d]) ∧ ys.length ≤ d ∧ Ints w' B ys.length ys ∧ Below w.heap.size w w' := by
  obtain ⟨B, d, he, hd, ho, hb⟩ := h
  exact ⟨B, d, he, hd, Ints.of_own ho rfl, hb⟩

theorem bt_since (q : Bool) (l : Int) (A : Option Addr) (n c : Nat) (t : Int) (w : World) :
    Calls Try.prog 14 #[.agg #[.bool q, .int .i64 l, .slice A n c], .int .i64 t] w fun e w' => e = .returned (.int .i64 (sinV t l)) ∧ Below w.heap.size w w' := by
  have HS := fun w => sat_sub t l w
  unfold sinV
  generalize subV t l = s at *
  generalize subB t l = sb at *
  have H1 := Lib.hid HS
  clear HS
  have A0 : Below w.heap.size w w := Below.refl _ _
  rcases Int.lt_or_le 1 s with h | h
  · rw [show max s 1 = s by omega]
    go_enter Try.func14, Try.ntmps14
    go_wp2_with (go_at_call 24; refine (H1.out _).mono ?_; rintro e w' ⟨rfl, rfl⟩)
    all_goals go_ret
    all_goals exact ⟨by simp; try omega, by (repeat (first | (with_reducible exact Below.refl _ _) | (with_reducible assumption) | (with_reducible refine Near.up _ ?_) | (with_reducible refine Below.drew ?_) | (with_reducible refine below_alloc_on ?_ _) | (with_reducible refine below_set_on ?_ (by first | (simp; done) | (simp; omega) | omega) _)))⟩
  · rw [show max s 1 = 1 by omega]
    go_enter Try.func14, Try.ntmps14
    go_wp2_with (go_at_call 24; refine (H1.out _).mono ?_; rintro e w' ⟨rfl, rfl⟩)
    all_goals go_ret
    all_goals exact ⟨by simp; try omega, by (repeat (first | (with_reducible exact Below.refl _ _) | (with_reducible assumption) | (with_reducible refine Near.up _ ?_) | (with_reducible refine Below.drew ?_) | (with_reducible refine below_alloc_on ?_ _) | (with_reducible refine below_set_on ?_ (by first | (simp; done) | (simp; omega) | omega) _)))⟩

theorem bt_times (q : Bool) (l : Int) (A : Option Addr) (n c : Nat) (xs : List Int) (t : Int) (w : World) (h : Ints w A n xs) (hc : n ≤ c) (hr : n * 8 ≤ 140737488351232) :
    Calls Try.prog 20 #[.agg #[.bool q, .int .i64 l, .slice A n c], .int .i64 t] w (OwnInts w (timV q xs l t)) := by
  have A0 : Below w.heap.size w w := Below.refl _ _
  cases q
  · have HL := Lib.hid (fun w' (hb : Below w.heap.size w w') => (ring_last_own A n c xs 5 w' (h.below hb) hc hr).mono (fun _ _ h => h.own))
    unfold timV
    rw [if_neg (by simp)]
    go_enter Try.func20, Try.ntmps20
    go_wp2_with (fail)
    refine (HL.out _ (by (repeat (first | (with_reducible exact Below.refl _ _) | (with_reducible assumption) | (with_reducible refine Near.up _ ?_) | (with_reducible refine Below.drew ?_) | (with_reducible refine below_alloc_on ?_ _) | (with_reducible refine below_set_on ?_ (by first | (simp; done) | (simp; omega) | omega) _))))).mono ?_
    rintro e w1 ⟨v, rfl, ho, hb⟩
    obtain ⟨B, d, rfl, hd⟩ := own_form ho
    go_wp2
    all_goals go_ret
    all_goals exact ⟨_, rfl, own_base ho (by simp), Below.trans (by (repeat (first | (with_reducible exact Below.refl _ _) | (with_reducible assumption) | (with_reducible refine Near.up _ ?_) | (with_reducible refine Below.drew ?_) | (with_reducible refine below_alloc_on ?_ _) | (with_reducible refine below_set_on ?_ (by first | (simp; done) | (simp; omega) | omega) _)))) (hb.mono (by simp))⟩
  · have HP := Lib.hid (fun w' (hb : Below w.heap.size w w') => ring_push_own A n c xs 5 (sinV t l) w' (h.below hb) hc hr)
    have HS := Lib.hid (fun w => bt_since true l A n c t w)
    unfold timV
    rw [if_pos rfl]
    go_enter Try.func20, Try.ntmps20
    have X0 : Bx w w.heap.size #[.bool true, .int .i64 l, .slice A n c] (w.alloc (.cells #[.bool true, .int .i64 l, .slice A n c] 24)) := ⟨box_new _ _ _, below_alloc_on A0 _, Nat.le_refl _⟩
    go_wp2
    go_region_held3 (fun w' => w'.cell? ⟨w.heap.size, 0, none⟩ = some (.bool true) ∧ w'.cell? ⟨w.heap.size, 1, none⟩ = some (.int .i64 l) ∧ w'.cell? ⟨w.heap.size, 2, none⟩ = some (.slice A n c) ∧ w.heap.size < w'.heap.size ∧ Bx w w.heap.size #[.bool true, .int .i64 l, .slice A n c] w')
      ((refine kp_mk ?_; (repeat (first | assumption | (exact kp_out (by assumption)) | (refine Bx.call ?_ hb) | (refine Bx.drew ?_) | (refine Bx.alloc ?_ _) | (refine Bx.far ?_ (by first | (simp; done) | omega) _)))))
      (first | (go_at_call 14; refine (HS.out _).mono ?_; rintro e w1 ⟨rfl, hb⟩) | (go_at_call 31; have hq := (kp_out (by assumption)).bel.size; refine (HP.out _ (kp_out (by assumption)).bel).mono ?_; rintro e w2 ⟨v, rfl, ho, hb⟩; obtain ⟨B, d, rfl, hd⟩ := own_form ho))
    go_wp2
    all_goals go_ret
    all_goals exact ⟨_, rfl, own_base ho hq, (kp_out (by assumption)).bel⟩

theorem own_far {w : World} {base e n : Nat} {v : Value} {cs : List Value} (h : w.ownsRow base e 1 v n cs) {p : Addr} (hp : p.block < base) (x : Value) : (w.setCell p x).ownsRow base e 1 v n cs := ownsRow_setCell_below h hp x

set_option maxRecDepth 100000 in
theorem bt_still (q : Bool) (l : Int) (A : Option Addr) (n c : Nat) (xs : List Int) (t : Int) (w : World) (h : Ints w A n xs) (hc : n ≤ c) (hr : n * 8 ≤ 140737488351232) :
    Calls Try.prog 10 #[.agg #[.bool q, .int .i64 l, .slice A n c], .int .i64 t, .bool false] w (NewBeat w q l (lastL xs 5)) := by
  have A0 : Below w.heap.size w w := Below.refl _ _
  have HL := Lib.hid (fun w' (hb : Below w.heap.size w w') => (ring_last_own A n c xs 5 w' (h.below hb) hc hr).mono (fun _ _ h => h.own))
  generalize lastL xs 5 = ys at *
  go_enter Try.func10, Try.ntmps10
  have X0 : Bx w w.heap.size #[.bool q, .int .i64 l, .slice A n c] (w.alloc (.cells #[.bool q, .int .i64 l, .slice A n c] 24)) := ⟨box_new _ _ _, below_alloc_on A0 _, Nat.le_refl _⟩
  go_wp2
  go_region_held3 (fun w' => w'.cell? ⟨w.heap.size, 0, none⟩ = some (.bool q) ∧ w'.cell? ⟨w.heap.size, 1, none⟩ = some (.int .i64 l) ∧ w'.cell? ⟨w.heap.size, 2, none⟩ = some (.slice A n c) ∧ w.heap.size < w'.heap.size ∧ Bx w w.heap.size #[.bool q, .int .i64 l, .slice A n c] w')
    ((refine kp_mk ?_; (repeat (first | assumption | (exact kp_out (by assumption)) | (refine Bx.call ?_ hb) | (refine Bx.drew ?_) | (refine Bx.alloc ?_ _) | (refine Bx.far ?_ (by first | (simp; done) | omega) _)))))
    (first | (go_at_call 19; refine (HL.out _ (kp_out (by assumption)).bel).mono ?_; rintro e w1 ⟨v, rfl, ho, hb⟩; obtain ⟨B, d, rfl, hd⟩ := own_form ho; (first | (have Z := (box_at _ _ _ (g := w.heap.size + 1) (by simp)).drew.below hb; have z0 := Z.three.1; have z1 := Z.three.2.1; have z2 := Z.three.2.2.1; have zf := Z.three.2.2.2.1; have zl := Z.1) | skip)))
  all_goals go_wp2
  all_goals exact bodyPost_ret (v := .agg #[.bool q, .int .i64 l, .slice B ys.length d]) (by simp [results, Try.results10, go_sem, z0, z1, z2]) rfl ⟨B, d, rfl, hd, own_base (own_far (own_far (own_far ho (by simp) _) (by simp) _) (by simp) _) (by simp; try omega), by first | exact (kp_out (by assumption)).bel | (repeat (first | (with_reducible exact Below.refl _ _) | (with_reducible assumption) | (with_reducible refine Near.up _ ?_) | (with_reducible refine Below.drew ?_) | (with_reducible refine below_alloc_on ?_ _) | (with_reducible refine below_set_on ?_ (by first | (simp; done) | (simp; omega) | omega) _)))⟩

set_option maxRecDepth 100000 in
theorem bt_drop (q : Bool) (l : Int) (A : Option Addr) (n c : Nat) (xs : List Int) (t : Int) (w : World) (h : Ints w A n xs) (hc : n ≤ c) (hr : n * 8 ≤ 140737488351232) :
    Calls Try.prog 10 #[.agg #[.bool q, .int .i64 l, .slice A n c], .int .i64 t, .bool true] w (NewBeat w true t (timV q xs l t)) := by
  have A0 : Below w.heap.size w w := Below.refl _ _
  have HL := Lib.hid (fun w' (hb : Below w.heap.size w w') => bt_times q l A n c xs t w' (h.below hb) hc hr)
  generalize timV q xs l t = ys at *
  go_enter Try.func10, Try.ntmps10
  go_wp2_with (fail)
  refine (HL.out _ (by (repeat (first | (with_reducible exact Below.refl _ _) | (with_reducible assumption) | (with_reducible refine Near.up _ ?_) | (with_reducible refine Below.drew ?_) | (with_reducible refine below_alloc_on ?_ _) | (with_reducible refine below_set_on ?_ (by first | (simp; done) | (simp; omega) | omega) _))))).mono ?_
  rintro e w1 ⟨v, rfl, ho, hb⟩
  obtain ⟨B, d, rfl, hd⟩ := own_form ho
  have Z := (box_at _ _ _ (g := w.heap.size + 1) (by simp)).below hb
  obtain ⟨z0, z1, z2, zf, zl⟩ := Z.three
  go_wp2
  have A1 := below_call (W := w) (by (repeat (first | (with_reducible exact Below.refl _ _) | (with_reducible assumption) | (with_reducible refine Near.up _ ?_) | (with_reducible refine Below.drew ?_) | (with_reducible refine below_alloc_on ?_ _) | (with_reducible refine below_set_on ?_ (by first | (simp; done) | (simp; omega) | omega) _)))) hb
  all_goals exact bodyPost_ret (v := .agg #[.bool true, .int .i64 t, .slice B ys.length d]) (by simp [results, Try.results10, go_sem, z0, z1, z2]) rfl ⟨B, d, rfl, hd, own_base (own_far (own_far (own_far ho (by simp) _) (by simp) _) (by simp) _) (by simp; try omega), by (repeat (first | (with_reducible exact Below.refl _ _) | (with_reducible assumption) | (with_reducible refine Near.up _ ?_) | (with_reducible refine Below.drew ?_) | (with_reducible refine below_alloc_on ?_ _) | (with_reducible refine below_set_on ?_ (by first | (simp; done) | (simp; omega) | omega) _)))⟩
end Go.Proofs.Ytkmhkhmifecbdaa
