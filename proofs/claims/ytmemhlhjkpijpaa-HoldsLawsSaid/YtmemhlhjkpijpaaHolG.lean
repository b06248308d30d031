/- Contracts of the closures of holds.truths. -/
import Derived.Test.YtmemhlhjkpijpaaHolF
import Derived.Test.YtmemhlhjkpijpaaOuts
import Derived.Test.YtmemhlhjkpijpaaWorld
namespace Go.Proofs.Ytmemhlhjkpijpaa
open Go.RowKit
set_option linter.unusedVariables false
set_option linter.unusedSimpArgs false
set_option maxRecDepth 100000
attribute [local go_sem] cell_set_ite Near.cell Near.frozen

/-- A variable that a closure holds. -/
def Held (w : World) (p : Nat) (vs : Array Value) : Prop := p < w.heap.size ∧ ∀ i, i < vs.size → w.cell? ⟨p, i, none⟩ = vs[i]?
theorem Held.below {w w' : World} {p : Nat} {vs : Array Value} (h : Held w p vs) (hb : Below w.heap.size w w') : Held w' p vs :=
  ⟨Nat.lt_of_lt_of_le h.1 hb.size, fun i hi => (hb.cell (p := ⟨p, i, none⟩) h.1).trans (h.2 i hi)⟩
theorem Held.of_box {w : World} {p : Nat} {vs : Array Value} (h : Box w p vs) : Held w p vs := ⟨h.1, fun i _ => h.2.1 i⟩
/-- Lists of truths, of m each, in a variable. -/
def Blw (w : World) (p n m : Nat) (F : Nat → Nat → Bool) : Prop := ∃ a o c, Held w p #[.slice (some ⟨a, o, none⟩) n c] ∧ a < w.heap.size ∧ ∀ i, i < n → ∃ g, w.cell? ⟨a, o + i, none⟩ = some (.slice (some ⟨g, 0, none⟩) m m) ∧ Col w g m (fun k => .bool (F i k))
theorem Blw.below {w w' : World} {p n m : Nat} {F : Nat → Nat → Bool} (h : Blw w p n m F) (hb : Below w.heap.size w w') : Blw w' p n m F := by
  obtain ⟨a, o, c, h1, h2, h3⟩ := h
  refine ⟨a, o, c, h1.below hb, Nat.lt_of_lt_of_le h2 hb.size, fun i hi => ?_⟩
  obtain ⟨g, k1, k2⟩ := h3 i hi
  exact ⟨g, (hb.cell (p := ⟨a, o + i, none⟩) h2).trans k1, k2.below hb⟩
theorem outs_at {w : World} {B : Option Addr} {m k : Nat} {os : Nat → Ou} (h : Outs w B m os) (hk : k < m) : ∃ b off, B = some ⟨b, off, none⟩ ∧ b < w.heap.size ∧ w.cell? ⟨b, off + k * 11, none⟩ = some (.int .i64 (os k).tick) ∧ w.cell? ⟨b, off + k * 11 + 1, none⟩ = some (.int .i64 (os k).mode) ∧ w.cell? ⟨b, off + k * 11 + 2, none⟩ = some (.int .i64 (os k).latch) ∧
    w.cell? ⟨b, off + k * 11 + 3, none⟩ = some (.int .i64 (os k).notes) ∧ w.cell? ⟨b, off + k * 11 + 4, none⟩ = some (.int .i64 (os k).level) ∧ w.cell? ⟨b, off + k * 11 + 5, none⟩ = some (.int .i64 (os k).buzzer) ∧ w.cell? ⟨b, off + k * 11 + 6, none⟩ = some (.int .i64 (os k).opn) ∧ w.cell? ⟨b, off + k * 11 + 7, none⟩ = some (.int .i64 (os k).pos) ∧
    w.cell? ⟨b, off + k * 11 + 8, none⟩ = some (.int .i64 (os k).volume) ∧ w.cell? ⟨b, off + k * 11 + 9, none⟩ = some (.bool (os k).drop) ∧ w.cell? ⟨b, off + k * 11 + 10, none⟩ = some (.string (os k).frame) := by
  obtain ⟨b, off, e, hl, hc⟩ := h (by omega)
  exact ⟨b, off, e, hl, hc k hk 0 (by omega), hc k hk 1 (by omega), hc k hk 2 (by omega), hc k hk 3 (by omega), hc k hk 4 (by omega), hc k hk 5 (by omega), hc k hk 6 (by omega), hc k hk 7 (by omega), hc k hk 8 (by omega), hc k hk 9 (by omega), hc k hk 10 (by omega)⟩

set_option maxHeartbeats 2000000 in
theorem tr_atom (p q m d k : Nat) (B : Option Addr) (os : Nat → Ou) (what least : Int) (w : World) (hk : k < m) (ho : Outs w B m os) (hp : Held w p #[.slice B m d]) (hq : Held w q #[.int .i64 what, .int .i64 least]) :
    Calls Try.prog 30 #[.int .i64 (k : Int), .pointer (some ⟨p, 0, none⟩), .pointer (some ⟨q, 0, none⟩)] w fun e w' => e = .returned (.bool (decide (least ≤ askV (os k) what))) ∧ Below w.heap.size w w' := by
  have HA := Lib.hid (fun w => ho_ask (os k) what w)
  obtain ⟨b, off, rfl, hl, c0, c1, c2, c3, c4, c5, c6, c7, c8, c9, c10⟩ := outs_at ho hk
  have p0 : w.cell? ⟨p, 0, none⟩ = some (.slice (some ⟨b, off, none⟩) m d) := hp.2 0 (by simp)
  have q0 : w.cell? ⟨q, 0, none⟩ = some (.int .i64 what) := hq.2 0 (by simp)
  have q1 : w.cell? ⟨q, 1, none⟩ = some (.int .i64 least) := hq.2 1 (by simp)
  have lp := hp.1
  have lq := hq.1
  have km : (k : Int) < (m : Int) := by omega
  unfold Ou.cells at HA
  clear ho hp hq
  generalize askV (os k) what = v at *
  go_enter Try.func30, Try.ntmps30
  go_wp2_with (fail)
  refine wp_region_calm (by kernel_rfl) (by kernel_rfl) ?_
  repeat (go_big_quiet_step (((go_at_call 9; exact calm_of _ (HA.out _)))))
  refine wpQuiet_nil ?_
  intro _ hw'
  obtain ⟨u, rfl⟩ := hw'
  go_wp2_with (fail)
  all_goals go_ret
  all_goals exact ⟨rfl, u.below⟩
set_option maxHeartbeats 2000000 in
theorem tr_hazard (p q m d k : Nat) (B : Option Addr) (os : Nat → Ou) (bit : Int) (w : World) (hk : k < m) (ho : Outs w B m os) (hp : Held w p #[.slice B m d]) (hq : Held w q #[.int .i64 bit]) :
    Calls Try.prog 31 #[.int .i64 (k : Int), .pointer (some ⟨p, 0, none⟩), .pointer (some ⟨q, 0, none⟩)] w fun e w' => e = .returned (.bool (!(bits .and .i64 (os k).latch bit == 0))) ∧ Below w.heap.size w w' := by
  obtain ⟨b, off, rfl, hl, c0, c1, c2, c3, c4, c5, c6, c7, c8, c9, c10⟩ := outs_at ho hk
  have p0 : w.cell? ⟨p, 0, none⟩ = some (.slice (some ⟨b, off, none⟩) m d) := hp.2 0 (by simp)
  have q0 : w.cell? ⟨q, 0, none⟩ = some (.int .i64 bit) := hq.2 0 (by simp)
  have lp := hp.1
  have lq := hq.1
  have km : (k : Int) < (m : Int) := by omega
  clear ho hp hq c0 c1 c3 c4 c5 c6 c7 c8 c9 c10
  go_enter Try.func31, Try.ntmps31
  go_wp2_with (fail)
  refine wp_region_calm (by kernel_rfl) (by kernel_rfl) ?_
  repeat (go_big_quiet_step ((fail)))
  refine wpQuiet_nil ?_
  intro _ hw'
  obtain ⟨u, rfl⟩ := hw'
  go_wp2_with (fail)
  all_goals go_ret
  all_goals exact ⟨rb_ (by first | rfl | simp), u.below⟩
set_option maxHeartbeats 2000000 in
theorem tr_not (p n m k : Nat) (F : Nat → Nat → Bool) (w : World) (hk : k < m) (hn : 1 ≤ n) (hp : Blw w p n m F) :
    Calls Try.prog 32 #[.int .i64 (k : Int), .pointer (some ⟨p, 0, none⟩)] w fun e w' => e = .returned (.bool (!(F 0 k))) ∧ Below w.heap.size w w' := by
  obtain ⟨a, o, c, hp, la, hc⟩ := hp
  obtain ⟨g, a0, C⟩ := hc 0 (by omega)
  have p0 : w.cell? ⟨p, 0, none⟩ = some (.slice (some ⟨a, o, none⟩) n c) := hp.2 0 (by simp)
  have c0 : w.cell? ⟨g, k, none⟩ = some (.bool (F 0 k)) := C.cell k hk
  rw [Nat.add_zero] at a0
  have km : (k : Int) < (m : Int) := by omega
  have t0 : 0 < n := hn
  clear hp hc C
  generalize F 0 k = x at *
  go_enter Try.func32, Try.ntmps32
  go_wp2_with (fail)
  all_goals go_ret
  all_goals exact ⟨rfl, Below.refl _ _⟩
set_option maxHeartbeats 2000000 in
theorem tr_both (p m k : Nat) (F : Nat → Nat → Bool) (w : World) (hk : k < m) (hp : Blw w p 2 m F) :
    Calls Try.prog 33 #[.int .i64 (k : Int), .pointer (some ⟨p, 0, none⟩)] w fun e w' => e = .returned (.bool (F 0 k && F 1 k)) ∧ Below w.heap.size w w' := by
  obtain ⟨a, o, c, hp, la, hc⟩ := hp
  obtain ⟨g, a0, C⟩ := hc 0 (by omega)
  obtain ⟨h, a1, D⟩ := hc 1 (by omega)
  have p0 : w.cell? ⟨p, 0, none⟩ = some (.slice (some ⟨a, o, none⟩) 2 c) := hp.2 0 (by simp)
  have c0 : w.cell? ⟨g, k, none⟩ = some (.bool (F 0 k)) := C.cell k hk
  have d0 : w.cell? ⟨h, k, none⟩ = some (.bool (F 1 k)) := D.cell k hk
  rw [Nat.add_zero] at a0
  have km : (k : Int) < (m : Int) := by omega
  clear hp hc C D
  generalize F 0 k = x at *
  generalize F 1 k = y at *
  cases x
  all_goals
    go_enter Try.func33, Try.ntmps33
    go_wp2_with (fail)
    all_goals go_ret
    all_goals exact ⟨rb_ (by simp), Below.refl _ _⟩
set_option maxHeartbeats 2000000 in
theorem tr_either (p m k : Nat) (F : Nat → Nat → Bool) (w : World) (hk : k < m) (hp : Blw w p 2 m F) :
    Calls Try.prog 34 #[.int .i64 (k : Int), .pointer (some ⟨p, 0, none⟩)] w fun e w' => e = .returned (.bool (F 0 k || F 1 k)) ∧ Below w.heap.size w w' := by
  obtain ⟨a, o, c, hp, la, hc⟩ := hp
  obtain ⟨g, a0, C⟩ := hc 0 (by omega)
  obtain ⟨h, a1, D⟩ := hc 1 (by omega)
  have p0 : w.cell? ⟨p, 0, none⟩ = some (.slice (some ⟨a, o, none⟩) 2 c) := hp.2 0 (by simp)
  have c0 : w.cell? ⟨g, k, none⟩ = some (.bool (F 0 k)) := C.cell k hk
  have d0 : w.cell? ⟨h, k, none⟩ = some (.bool (F 1 k)) := D.cell k hk
  rw [Nat.add_zero] at a0
  have km : (k : Int) < (m : Int) := by omega
  clear hp hc C D
  generalize F 0 k = x at *
  generalize F 1 k = y at *
  cases x
  all_goals
    go_enter Try.func34, Try.ntmps34
    go_wp2_with (fail)
    all_goals go_ret
    all_goals exact ⟨rb_ (by simp), Below.refl _ _⟩
/-- Numbers, in a variable. -/
def Lst (w : World) (p m : Nat) (L : Nat → Int) : Prop := ∃ g, Held w p #[.slice (some ⟨g, 0, none⟩) m m] ∧ Col w g m (fun k => .int .i64 (L k))
theorem Lst.below {w w' : World} {p m : Nat} {L : Nat → Int} (h : Lst w p m L) (hb : Below w.heap.size w w') : Lst w' p m L := by
  obtain ⟨g, h1, h2⟩ := h
  exact ⟨g, h1.below hb, h2.below hb⟩
set_option maxHeartbeats 2000000 in
theorem tr_once (p q m k : Nat) (L : Nat → Int) (back : Int) (w : World) (hk : k < m) (hm : m ≤ 100000) (hL : -1001 ≤ L k ∧ L k ≤ k) (hp : Lst w p m L) (a : Value) (hq : Held w q #[a, .int .i64 back]) :
    Calls Try.prog 36 #[.int .i64 (k : Int), .pointer (some ⟨p, 0, none⟩), .pointer (some ⟨q, 0, none⟩)] w fun e w' => e = .returned (.bool (decide ((k : Int) - L k ≤ back))) ∧ Below w.heap.size w w' := by
  obtain ⟨g, hp, C⟩ := hp
  have p0 : w.cell? ⟨p, 0, none⟩ = some (.slice (some ⟨g, 0, none⟩) m m) := hp.2 0 (by simp)
  have q1 : w.cell? ⟨q, 1, none⟩ = some (.int .i64 back) := hq.2 1 (by simp)
  have c0 : w.cell? ⟨g, k, none⟩ = some (.int .i64 (L k)) := C.cell k hk
  have lp := hp.1
  have lq := hq.1
  have lg := C.lt
  have km : (k : Int) < (m : Int) := by omega
  obtain ⟨h1, h2⟩ := hL
  have wk : IntKind.i64.wrap ((k : Int) - L k) = (k : Int) - L k := by rw [IntKind.wrap_i64]; omega
  clear hp hq C
  generalize L k = v at *
  go_enter Try.func36, Try.ntmps36
  go_wp2_with (fail)
  refine wp_region_calm (by kernel_rfl) (by kernel_rfl) ?_
  repeat (go_big_quiet_step ((fail)))
  refine wpQuiet_nil ?_
  intro _ hw'
  obtain ⟨u, rfl⟩ := hw'
  go_wp2_with (fail)
  all_goals go_ret
  all_goals exact ⟨rfl, u.below⟩
set_option maxHeartbeats 2000000 in
theorem tr_always (p q m k : Nat) (L : Nat → Int) (back : Int) (w : World) (hk : k < m) (hm : m ≤ 100000) (hL : -1001 ≤ L k ∧ L k ≤ k) (hp : Lst w p m L) (a : Value) (hq : Held w q #[a, .int .i64 back]) :
    Calls Try.prog 37 #[.int .i64 (k : Int), .pointer (some ⟨p, 0, none⟩), .pointer (some ⟨q, 0, none⟩)] w fun e w' => e = .returned (.bool (decide (back < (k : Int) - L k))) ∧ Below w.heap.size w w' := by
  obtain ⟨g, hp, C⟩ := hp
  have p0 : w.cell? ⟨p, 0, none⟩ = some (.slice (some ⟨g, 0, none⟩) m m) := hp.2 0 (by simp)
  have q1 : w.cell? ⟨q, 1, none⟩ = some (.int .i64 back) := hq.2 1 (by simp)
  have c0 : w.cell? ⟨g, k, none⟩ = some (.int .i64 (L k)) := C.cell k hk
  have lp := hp.1
  have lq := hq.1
  have lg := C.lt
  have km : (k : Int) < (m : Int) := by omega
  obtain ⟨h1, h2⟩ := hL
  have wk : IntKind.i64.wrap ((k : Int) - L k) = (k : Int) - L k := by rw [IntKind.wrap_i64]; omega
  clear hp hq C
  generalize L k = v at *
  go_enter Try.func37, Try.ntmps37
  go_wp2_with (fail)
  refine wp_region_calm (by kernel_rfl) (by kernel_rfl) ?_
  repeat (go_big_quiet_step ((fail)))
  refine wpQuiet_nil ?_
  intro _ hw'
  obtain ⟨u, rfl⟩ := hw'
  go_wp2_with (fail)
  all_goals go_ret
  all_goals exact ⟨rfl, u.below⟩
set_option maxHeartbeats 2000000 in
theorem tr_since (p q m k : Nat) (L R : Nat → Int) (w : World) (hk : k < m) (hp : Lst w p m L) (hq : Lst w q m R) :
    Calls Try.prog 38 #[.int .i64 (k : Int), .pointer (some ⟨p, 0, none⟩), .pointer (some ⟨q, 0, none⟩)] w fun e w' => e = .returned (.bool (decide (0 ≤ L k) && decide (R k ≤ L k))) ∧ Below w.heap.size w w' := by
  obtain ⟨g, hp, C⟩ := hp
  obtain ⟨h, hq, D⟩ := hq
  have p0 : w.cell? ⟨p, 0, none⟩ = some (.slice (some ⟨g, 0, none⟩) m m) := hp.2 0 (by simp)
  have q0 : w.cell? ⟨q, 0, none⟩ = some (.slice (some ⟨h, 0, none⟩) m m) := hq.2 0 (by simp)
  have c0 : w.cell? ⟨g, k, none⟩ = some (.int .i64 (L k)) := C.cell k hk
  have d0 : w.cell? ⟨h, k, none⟩ = some (.int .i64 (R k)) := D.cell k hk
  have lp := hp.1
  have lq := hq.1
  have lg := C.lt
  have lh := D.lt
  have km : (k : Int) < (m : Int) := by omega
  clear hp hq C D
  generalize L k = v at *
  generalize R k = x at *
  cases t0 : decide (0 ≤ v)
  all_goals
    go_enter Try.func38, Try.ntmps38
    go_wp2_with (fail)
    refine wp_region_calm (by kernel_rfl) (by kernel_rfl) ?_
    repeat (go_big_quiet_step ((fail)))
    refine wpQuiet_nil ?_
    intro _ hw'
    obtain ⟨u, rfl⟩ := hw'
    go_wp2_with (fail)
    all_goals go_ret
    all_goals exact ⟨rb_ (by first | rfl | simp), u.below⟩
theorem tr_whole (k : Nat) (w : World) : Calls Try.prog 39 #[.int .i64 (k : Int)] w fun e w' => e = .returned (.bool true) ∧ Below w.heap.size w w' := by
  go_enter Try.func39, Try.ntmps39
  go_wp2_with (fail)
  all_goals go_ret
  all_goals exact ⟨rfl, Below.refl _ _⟩
end Go.Proofs.Ytmemhlhjkpijpaa
