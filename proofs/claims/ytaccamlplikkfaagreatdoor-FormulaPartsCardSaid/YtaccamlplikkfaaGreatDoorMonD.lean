/- Contracts of packages formula, holds and monitor: may, Right, Ask, alone, ago, unary, binary. -/
import Derived.Test.YtaccamlplikkfaaGreatDoorMonC
namespace Go.Proofs.YtaccamlplikkfaaGreatDoor
open Go.RowKit
set_option linter.unusedVariables false
set_option linter.unusedSimpArgs false
set_option maxRecDepth 100000
attribute [local go_sem] cell_set_ite Near.cell Near.frozen

def myB (t : Tm) : Bool := if t.op = 2 then akB t.a t.b else if t.op = 6 ∨ t.op = 7 then decide (0 ≤ t.a) && decide (t.a ≤ 1000) && decide (t.b = 0) else if t.op = 1 ∨ t.op = 3 ∨ t.op = 4 ∨ t.op = 5 ∨ t.op = 8 then decide (t.a = 0) && decide (t.b = 0) else false
theorem my_of {op a b : Int} {r : Bool} (h : (if op = 2 then akB a b else if op = 6 ∨ op = 7 then decide (0 ≤ a) && decide (a ≤ 1000) && decide (b = 0) else if op = 1 ∨ op = 3 ∨ op = 4 ∨ op = 5 ∨ op = 8 then decide (a = 0) && decide (b = 0) else false) = r) : myB ⟨op, a, b⟩ = r := h
set_option maxHeartbeats 4000000 in
theorem fo_may (op a b : Int) (hb : b ≤ 9223372036854775807) (w : World) : Calls Tryz.prog 15 #[.agg #[.int .i64 op, .int .i64 a, .int .i64 b]] w fun e w' => e = .returned (.bool (myB ⟨op, a, b⟩)) ∧ Below w.heap.size w w' := by
  have hf : ∀ k : Int, op ≠ k → (op == k) = false := fun k h => by simpa using h
  have HA := Lib.hid (fun w => fo_asks a b hb w)
  have A0 : Below w.heap.size w w := Below.refl _ _
  have ways : op = 2 ∨ (op = 6 ∨ op = 7) ∨ (op = 1 ∨ op = 3 ∨ op = 4 ∨ op = 5 ∨ op = 8) ∨ (op ≠ 1 ∧ op ≠ 2 ∧ op ≠ 3 ∧ op ≠ 6 ∧ op ≠ 7 ∧ op ≠ 4 ∧ op ≠ 5 ∧ op ≠ 8) := by omega
  rcases ways with rfl | h | h | ⟨h1, h2, h3, h6, h7, h4, h5, h8⟩
  · have hm : myB ⟨2, a, b⟩ = akB a b := my_of (by rw [if_pos rfl])
    rw [hm]
    generalize akB a b = r at *
    clear hf hm
    go_enter Tryz.func15, Tryz.ntmps15
    go_wp2_with (go_at_call 29; refine (HA.out _).mono ?_; rintro e w' ⟨rfl, rfl⟩)
    all_goals go_ret
    all_goals exact ⟨rfl, by (repeat (first | (with_reducible exact Below.refl _ _) | (with_reducible assumption) | (with_reducible refine Near.up _ ?_) | (with_reducible refine Below.drew ?_) | (with_reducible refine below_alloc_on ?_ _) | (with_reducible refine below_set_on ?_ (by first | (simp; done) | (simp; omega) | omega) _)))⟩
  · have hm : myB ⟨op, a, b⟩ = (decide (0 ≤ a) && decide (a ≤ 1000) && decide (b = 0)) := my_of (by rw [if_neg (by omega), if_pos h])
    rw [hm]
    clear hf hm HA
    have tb : (b == 0) = decide (b = 0) := by by_cases h : b = 0 <;> simp [h]
    cases t0 : decide (0 ≤ a)
    · clear hb tb
      rcases h with rfl | rfl
      all_goals
        go_enter Tryz.func15, Tryz.ntmps15
        go_wp2
        all_goals go_ret
        all_goals exact ⟨rfl, by (repeat (first | (with_reducible exact Below.refl _ _) | (with_reducible assumption) | (with_reducible refine Near.up _ ?_) | (with_reducible refine Below.drew ?_) | (with_reducible refine below_alloc_on ?_ _) | (with_reducible refine below_set_on ?_ (by first | (simp; done) | (simp; omega) | omega) _)))⟩
    · cases t1 : decide (a ≤ 1000)
      · clear hb tb
        rcases h with rfl | rfl
        all_goals
          go_enter Tryz.func15, Tryz.ntmps15
          go_wp2
          all_goals go_ret
          all_goals exact ⟨rfl, by (repeat (first | (with_reducible exact Below.refl _ _) | (with_reducible assumption) | (with_reducible refine Near.up _ ?_) | (with_reducible refine Below.drew ?_) | (with_reducible refine below_alloc_on ?_ _) | (with_reducible refine below_set_on ?_ (by first | (simp; done) | (simp; omega) | omega) _)))⟩
      · cases t2 : decide (b = 0)
        all_goals
          rw [t2] at tb
          rcases h with rfl | rfl
          all_goals
            go_enter Tryz.func15, Tryz.ntmps15
            go_wp2
            all_goals go_ret
            all_goals exact ⟨rfl, by (repeat (first | (with_reducible exact Below.refl _ _) | (with_reducible assumption) | (with_reducible refine Near.up _ ?_) | (with_reducible refine Below.drew ?_) | (with_reducible refine below_alloc_on ?_ _) | (with_reducible refine below_set_on ?_ (by first | (simp; done) | (simp; omega) | omega) _)))⟩
  · have hm : myB ⟨op, a, b⟩ = (decide (a = 0) && decide (b = 0)) := my_of (by rw [if_neg (by omega), if_neg (by omega), if_pos h])
    rw [hm]
    clear hf hm HA
    have ta : (a == 0) = decide (a = 0) := by by_cases h : a = 0 <;> simp [h]
    have tb : (b == 0) = decide (b = 0) := by by_cases h : b = 0 <;> simp [h]
    cases t1 : decide (a = 0) <;> cases t2 : decide (b = 0)
    all_goals
      rw [t1] at ta
      rw [t2] at tb
      rcases h with rfl | rfl | rfl | rfl | rfl
      all_goals
        go_enter Tryz.func15, Tryz.ntmps15
        go_wp2
        all_goals go_ret
        all_goals exact ⟨rfl, by (repeat (first | (with_reducible exact Below.refl _ _) | (with_reducible assumption) | (with_reducible refine Near.up _ ?_) | (with_reducible refine Below.drew ?_) | (with_reducible refine below_alloc_on ?_ _) | (with_reducible refine below_set_on ?_ (by first | (simp; done) | (simp; omega) | omega) _)))⟩
  · have hm : myB ⟨op, a, b⟩ = false := my_of (by rw [if_neg (by omega), if_neg (by omega), if_neg (by omega)])
    have z1 := hf 1 h1
    have z2 := hf 2 h2
    have z3 := hf 3 h3
    have z4 := hf 4 h4
    have z5 := hf 5 h5
    have z6 := hf 6 h6
    have z7 := hf 7 h7
    have z8 := hf 8 h8
    rw [hm]
    clear hf hm HA h1 h2 h3 h4 h5 h6 h7 h8
    go_enter Tryz.func15, Tryz.ntmps15
    go_wp2
    all_goals go_ret
    all_goals exact ⟨rfl, by (repeat (first | (with_reducible exact Below.refl _ _) | (with_reducible assumption) | (with_reducible refine Near.up _ ?_) | (with_reducible refine Below.drew ?_) | (with_reducible refine below_alloc_on ?_ _) | (with_reducible refine below_set_on ?_ (by first | (simp; done) | (simp; omega) | omega) _)))⟩

/-- How many formulas are ready behind k parts, and whether all these were right. -/
def rdN (ts : Nat → Tm) : Nat → Nat
  | 0 => 0
  | k + 1 => rdN ts k + 1 - ndN (ts k).op
def okB (ts : Nat → Tm) : Nat → Bool
  | 0 => true
  | k + 1 => okB ts k && (myB (ts k) && decide (ndN (ts k).op ≤ rdN ts k))
theorem rdN_le (ts : Nat → Tm) : ∀ k, rdN ts k ≤ k
  | 0 => Nat.le_refl _
  | k + 1 => by
    have := rdN_le ts k
    unfold rdN
    omega
theorem ok_down (ts : Nat → Tm) {k n : Nat} (h : k ≤ n) (hn : okB ts n = true) : okB ts k = true := by
  induction n with
  | zero => obtain rfl : k = 0 := by omega
            exact hn
  | succ m ih =>
    rcases Nat.lt_or_ge m k with g | g
    · obtain rfl : k = m + 1 := by omega
      exact hn
    · refine ih (by omega) ?_
      unfold okB at hn
      cases h : okB ts m
      · rw [h] at hn; cases hn
      · rfl
def rtB (ts : Nat → Tm) (n : Nat) : Bool := decide (n ≤ 40) && (okB ts n && decide (rdN ts n = 1))
theorem rt_no {ts : Nat → Tm} {k n : Nat} (h : k ≤ n) (hk : okB ts k = false) : rtB ts n = false := by
  unfold rtB
  cases h2 : okB ts n
  · simp
  · rw [ok_down ts h h2] at hk; cases hk
set_option maxHeartbeats 4000000 in
theorem fo_right (A : Option Addr) (n c : Nat) (ts : Nat → Tm) (w : World) (h : Terms w A n ts) : Calls Tryz.prog 8 #[.slice A n c] w fun e w' => e = .returned (.bool (rtB ts n)) ∧ Below w.heap.size w w' := by
  have HI := Lib.hid h
  have A0 : Below w.heap.size w w := Below.refl _ _
  clear h
  by_cases hn : 40 < n
  · have t0 : decide (40 < (n : Int)) = true := decide_eq_true (by omega)
    have hr : rtB ts n = false := by unfold rtB; rw [decide_eq_false (by omega)]; rfl
    rw [hr]
    clear hn hr
    go_enter Tryz.func8, Tryz.ntmps8
    go_wp2
    all_goals go_ret
    all_goals exact ⟨rfl, A0⟩
  · have t0 : decide (40 < (n : Int)) = false := decide_eq_false (by omega)
    go_enter Tryz.func8, Tryz.ntmps8
    go_wp2
    go_loopg [3, 11] n (fun gk x i wr => ∃ k : Nat, k ≤ n ∧ gk = n - k ∧ i = .int .i64 k ∧ x = .int .i64 (rdN ts k) ∧ okB ts k = true ∧ Below w.heap.size w wr)
    case atStart => exact ⟨0, by omega, rfl, rfl, rfl, rfl, A0⟩
    case round =>
      clear A0
      obtain ⟨k, hk, rfl, rfl, rfl, hok, A1⟩ := hrel
      by_cases hlt : k < n
      · obtain ⟨b, off, rfl, hbs, hcell⟩ := HI.out.2 (by omega)
        have hbd := HI.out.1 k hlt
        have c0 := (A1.cell (p := ⟨b, off + k * 3, none⟩) hbs).trans (hcell k hlt).1
        have c1 := (A1.cell (p := ⟨b, off + k * 3 + 1, none⟩) hbs).trans (hcell k hlt).2.1
        have c2 := (A1.cell (p := ⟨b, off + k * 3 + 2, none⟩) hbs).trans (hcell k hlt).2.2
        have hS : okB ts (k + 1) = (myB (ts k) && decide (ndN (ts k).op ≤ rdN ts k)) := by
          show (okB ts k && (myB (ts k) && decide (ndN (ts k).op ≤ rdN ts k))) = _
          rw [hok, Bool.true_and]
        have HNX := Lib.hid (show rdN ts (k + 1) = rdN ts k + 1 - ndN (ts k).op from rfl)
        have hrl := rdN_le ts k
        have hnl := nd_le (ts k).op
        have H1 := Lib.hid (fun w => fo_may (ts k).op (ts k).a (ts k).b hbd w)
        have H2 := Lib.hid (fun w => fo_needs (ts k).op w)
        rw [show myB ⟨(ts k).op, (ts k).a, (ts k).b⟩ = myB (ts k) from rfl] at H1
        have HNO := Lib.hid (fun h => rt_no (ts := ts) (k := k + 1) (n := n) hlt h)
        clear hcell hbd hok
        generalize (ts k).op = op at *
        generalize (ts k).a = a at *
        generalize (ts k).b = bb at *
        generalize ndN op = nd at *
        generalize rdN ts k = rd at *
        generalize myB (ts k) = my at *
        have A2 := below_alloc_on A1 (.cells #[.int .i64 op, .int .i64 a, .int .i64 bb] 35)
        have lw := A1.size
        cases my
        · have hr := Lib.hid (HNO.out (by rw [hS]; rfl))
          clear hS HNO HNX
          go_wp2_with (fail)
          refine (H1.out _).mono ?_
          rintro e w3 ⟨rfl, hb⟩
          have A3 := below_call A2 hb
          clear hb A1 A2 c0 c1 c2
          go_wp2
          all_goals go_ret
          all_goals exact ⟨rb_ hr.out.symm, A3⟩
        · go_wp2_with (fail)
          refine (H1.out _).mono ?_
          rintro e w3 ⟨rfl, hb⟩
          have A3 := below_call A2 hb
          have B3 := (box_new wr #[.int .i64 op, .int .i64 a, .int .i64 bb] 35).below hb
          obtain ⟨d0, d1, d2, dd, dl⟩ := B3.three
          clear hb A1 A2 c0 c1 c2 B3
          by_cases hd : nd ≤ rd
          · have t3 : decide ((rd : Int) < (nd : Int)) = false := decide_eq_false (by omega)
            have w1 : IntKind.i64.wrap (1 - (nd : Int)) = 1 - (nd : Int) := by rw [IntKind.wrap_i64]; omega
            have w2 : IntKind.i64.wrap ((rd : Int) + (1 - (nd : Int))) = (rd : Int) + (1 - (nd : Int)) := by rw [IntKind.wrap_i64]; omega
            have hok2 := Lib.hid (show okB ts (k + 1) = true by rw [hS, decide_eq_true hd]; rfl)
            clear hS HNO
            go_wp2_with (go_at_call 16; refine (H2.out _).mono ?_; rintro e w' ⟨rfl, rfl⟩)
            go_roundg (n - (k + 1))
            case measure => omega
            case rel => exact ⟨k + 1, by omega, by omega, by go_num, by rw [HNX.out]; congr 1; omega, hok2.out, A3⟩
          · have t3 : decide ((rd : Int) < (nd : Int)) = true := decide_eq_true (by omega)
            have hr := Lib.hid (HNO.out (by rw [hS, decide_eq_false hd]; rfl))
            clear hS HNO HNX
            go_wp2_with (go_at_call 16; refine (H2.out _).mono ?_; rintro e w' ⟨rfl, rfl⟩)
            all_goals go_ret
            all_goals exact ⟨rb_ hr.out.symm, A3⟩
      · obtain rfl : k = n := by omega
        have hr : rtB ts k = decide (rdN ts k = 1) := by unfold rtB; rw [hok, decide_eq_true (by omega)]; rfl
        have hrl := rdN_le ts k
        generalize rdN ts k = rd at *
        by_cases h1 : rd = 1
        · subst h1
          have HR := Lib.hid hr
          clear hr
          go_wp2
          all_goals go_ret
          all_goals exact ⟨rb_ HR.out.symm, A1⟩
        · have t1 : ((rd : Int) == 1) = false := by simp; omega
          rw [decide_eq_false h1] at hr
          have HR := Lib.hid hr
          clear hr h1
          go_wp2
          all_goals go_ret
          all_goals exact ⟨rb_ HR.out.symm, A1⟩

/-- What a tick tells. -/
structure Ou where
  tick : Int
  mode : Int
  latch : Int
  notes : Int
  level : Int
  buzzer : Int
  opn : Int
  pos : Int
  volume : Int
  drop : Bool
  frame : ByteArray
def Ou.cells (o : Ou) : Array Value := #[.int .i64 o.tick, .int .i64 o.mode, .int .i64 o.latch, .int .i64 o.notes, .int .i64 o.level, .int .i64 o.buzzer, .int .i64 o.opn, .int .i64 o.pos, .int .i64 o.volume, .bool o.drop, .string o.frame]
def askV (o : Ou) (what : Int) : Int := if what = 1 then o.mode else if what = 2 then o.latch else if what = 3 then o.notes else if what = 4 then o.level else if what = 5 then o.buzzer else if what = 6 then o.opn else if what = 7 then o.pos else if what = 8 then o.volume else if what = 10 then o.tick else if what = 9 then (if o.drop = true then 1 else 0) else 0
/-- How long ago, a tick later. -/
def agoV (kept : Int) (now : Bool) : Int := if now = true then 0 else if kept < 0 then -1 else min kept 1000 + 1
end Go.Proofs.YtaccamlplikkfaaGreatDoor
