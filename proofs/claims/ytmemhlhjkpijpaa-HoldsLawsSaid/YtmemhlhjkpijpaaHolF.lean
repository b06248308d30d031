/- Contracts of package holds: each, lasts. -/
import Derived.Test.YtmemhlhjkpijpaaHolE
import Derived.Shelf.Abstract
namespace Go.Proofs.Ytmemhlhjkpijpaa
open Go.RowKit
set_option linter.unusedVariables false
set_option linter.unusedSimpArgs false
set_option maxRecDepth 100000
attribute [local go_sem] cell_set_ite Near.cell Near.frozen

def ListR (n : Nat) (F : Nat → Value) (w : World) (e : Ending) (w' : World) : Prop := ∃ g, e = .returned (.slice (some ⟨g, 0, none⟩) n n) ∧ Col w' g n F ∧ w.heap.size ≤ g ∧ Below w.heap.size w w'
set_option maxHeartbeats 2000000 in
theorem ho_each (f : Nat) (lb : Array Value) (eg : ∀ args w, (callFunc f args).run Try.prog w = .ok (.enter f args) w) (F : Nat → Bool) (B : Option Addr) (m d : Nat) (w : World) (hm : m ≤ 100000)
    (h : ∀ W (k : Nat), k < m → Below w.heap.size w W → Calls Try.prog f (#[.int .i64 (k : Int)] ++ lb) W fun e w' => e = .returned (.bool (F k)) ∧ Below W.heap.size W w') :
    Calls Try.prog 29 #[.slice B m d, .func (.func f) #[] lb] w (ListR m (fun i => .bool (F i)) w) := by
  have HF := Lib.hid h
  obtain ⟨j0, hj0, hy0, hy1, hy2⟩ := info_parts truth_info
  have hmt := fun w => run_make (P := Try.prog) w 40 4 j0 _ Try.underlying40 hj0 hy0 .i64 .i64 m m (by omega) (by omega) (by rw [hy2]; omega) (by omega)
  simp only [hy1, Int.toNat_natCast, Nat.mul_one, show (Value.bool false).cells = #[.bool false] from rfl] at hmt
  have C1 := col_new w m (.bool false) 4
  have A1 := below_alloc_on (Below.refl w.heap.size w) (.cells (madeCells #[.bool false] m) 4)
  clear h hy0 hy1 hy2 hj0
  go_enter Try.func29, Try.ntmps29
  go_wp2_with (fail)
  obtain ⟨sb, hsb⟩ : ∃ sb, w.heap.size = sb := ⟨_, rfl⟩
  have ws : w.heap.size ≤ sb := by omega
  rw [hsb] at C1
  simp only [hsb]
  clear hmt hsb
  generalize w.alloc (.cells (madeCells #[.bool false] m) 4) = w1 at *
  go_loopg [6, 12] m (fun gk x i wr => ∃ k : Nat, k ≤ m ∧ gk = m - k ∧ i = .int .i64 k ∧ Below w.heap.size w wr ∧ Col wr sb m (fun i => if i < k then .bool (F i) else .bool false))
  case atStart => exact ⟨0, by omega, rfl, rfl, A1, C1.congr (fun i _ => by rw [if_neg (by omega)])⟩
  case round =>
    clear A1 C1
    obtain ⟨k, hk, rfl, rfl, A1, C1⟩ := hrel
    by_cases hlt : k < m
    · have hF := Lib.hid (HF.out wr k hlt A1)
      have HC := Lib.hid C1
      have km : (k : Int) < (m : Int) := by omega
      clear C1
      go_wp2_with (go_at_fn f; refine hF.out.mono ?_; rintro e w3 ⟨rfl, hb⟩; have A3 := below_call A1 hb; have C3 := Lib.hid (HC.out.below hb); have cS := (HC.out.below hb).cell k hlt; rw [if_neg (by omega)] at cS; have fS := (HC.out.below hb).frz k; have lS := (HC.out.below hb).lt; clear hb)
      all_goals
        have C4 := Lib.hid ((C3.out.set hlt (.bool (F k))).congr (G := fun i => if i < k + 1 then .bool (F i) else .bool false) (fun i _ => by
          by_cases e2 : i = k
          · subst e2; rw [if_pos rfl, if_pos (by omega)]
          · rw [if_neg e2]
            by_cases e : i < k
            · rw [if_pos e, if_pos (by omega)]
            · rw [if_neg e, if_neg (by omega)]))
        have A4 := Lib.hid (below_set_on A3 (p := ⟨sb, k, none⟩) ws (.bool (F k)))
        clear cS fS lS C3 A3 A1 HC hF
        go_roundg (m - (k + 1))
        case measure => omega
        case rel => exact ⟨k + 1, by omega, by omega, by go_num, A4.out, C4.out⟩
    · obtain rfl : k = m := by omega
      have HC := Lib.hid (C1.congr (G := fun i => .bool (F i)) (fun i hi => by rw [if_pos hi]))
      clear C1
      go_wp2_with (fail)
      all_goals go_ret
      all_goals exact ⟨sb, rfl, HC.out, ws, A1⟩

def lsP (f : Nat → Bool) (b : Bool) : Nat → Int
  | 0 => -1001
  | k + 1 => ltV f b k
theorem lsP_next (f : Nat → Bool) (b : Bool) (k : Nat) : ltV f b k = if f k = b then (k : Int) else lsP f b k := by
  cases k <;> rfl
set_option maxHeartbeats 2000000 in
theorem ho_lasts (A : Option Addr) (m d : Nat) (f : Nat → Bool) (b : Bool) (w : World) (h : Vals w A m (fun i => .bool (f i))) (hm : m ≤ 100000) :
    Calls Try.prog 35 #[.slice A m d, .bool b] w (ListR m (fun i => .int .i64 (ltV f b i)) w) := by
  have HI := Lib.hid h
  obtain ⟨j0, hj0, hy0, hy1, hy2⟩ := info_parts int_info
  have hmt := fun w => run_make (P := Try.prog) w 49 3 j0 _ Try.underlying49 hj0 hy0 .i64 .i64 m m (by omega) (by omega) (by rw [hy2]; omega) (by omega)
  simp only [hy1, Int.toNat_natCast, Nat.mul_one, show (Value.int .i64 0).cells = #[.int .i64 0] from rfl] at hmt
  have C1 := col_new w m (.int .i64 0) 3
  have A1 := below_alloc_on (Below.refl w.heap.size w) (.cells (madeCells #[.int .i64 0] m) 3)
  clear h hy0 hy1 hy2 hj0
  go_enter Try.func35, Try.ntmps35
  go_wp2_with (fail)
  obtain ⟨sb, hsb⟩ : ∃ sb, w.heap.size = sb := ⟨_, rfl⟩
  have ws : w.heap.size ≤ sb := by omega
  rw [hsb] at C1
  simp only [hsb]
  clear hmt hsb
  generalize w.alloc (.cells (madeCells #[.int .i64 0] m) 3) = w1 at *
  go_loopg [5, 7, 13] m (fun gk y x i wr => ∃ k : Nat, k ≤ m ∧ gk = m - k ∧ i = .int .i64 k ∧ y = .int .i64 (lsP f b k) ∧ Below w.heap.size w wr ∧ Col wr sb m (fun i => if i < k then .int .i64 (ltV f b i) else .int .i64 0))
  case atStart => exact ⟨0, by omega, rfl, rfl, rfl, A1, C1.congr (fun i _ => by rw [if_neg (by omega)])⟩
  case round =>
    clear A1 C1
    obtain ⟨k, hk, rfl, rfl, rfl, A1, C1⟩ := hrel
    by_cases hlt : k < m
    · obtain ⟨g, o1, rfl, lg, hc⟩ := HI.out (by omega)
      have c0 : wr.cell? ⟨g, o1 + k, none⟩ = some (.bool (f k)) := (A1.cell (p := ⟨g, o1 + k, none⟩) lg).trans (hc k hlt)
      have cS := C1.cell k hlt
      rw [if_neg (by omega)] at cS
      have fS := C1.frz k
      have lS := C1.lt
      have km : (k : Int) < (m : Int) := by omega
      have HN := lsP_next f b k
      have C4 := Lib.hid ((C1.set hlt (.int .i64 (ltV f b k))).congr (G := fun i => if i < k + 1 then .int .i64 (ltV f b i) else .int .i64 0) (fun i _ => by
          by_cases e2 : i = k
          · subst e2; rw [if_pos rfl, if_pos (by omega)]
          · rw [if_neg e2]
            by_cases e : i < k
            · rw [if_pos e, if_pos (by omega)]
            · rw [if_neg e, if_neg (by omega)]))
      have A4 := Lib.hid (below_set_on A1 (p := ⟨sb, k, none⟩) ws (.int .i64 (ltV f b k)))
      have HL := Lib.hid (show lsP f b (k + 1) = ltV f b k from rfl)
      clear C1 hc HI
      generalize ltV f b k = v at *
      generalize lsP f b k = v0 at *
      obtain ⟨fk, hfk⟩ : ∃ x, f k = x := ⟨_, rfl⟩
      rw [hfk] at HN c0
      clear hfk lS
      cases fk <;> cases b
      all_goals
        first | (rw [if_pos rfl] at HN) | (rw [if_neg (by simp)] at HN)
        subst HN
        go_wp2_with (fail)
        go_roundg (m - (k + 1))
        case measure => omega
        case rel => exact ⟨k + 1, by omega, by omega, by go_num, by rw [HL.out], A4.out, C4.out⟩
    · obtain rfl : k = m := by omega
      have HC := Lib.hid (C1.congr (G := fun i => .int .i64 (ltV f b i)) (fun i hi => by rw [if_pos hi]))
      clear C1
      go_wp2_with (fail)
      all_goals go_ret
      all_goals exact ⟨sb, rfl, HC.out, ws, A1⟩
end Go.Proofs.Ytmemhlhjkpijpaa
