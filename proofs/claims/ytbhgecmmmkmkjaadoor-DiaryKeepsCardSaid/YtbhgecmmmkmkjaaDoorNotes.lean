/- Lists of notes: as they lie; grown by append. -/
import Derived.Test.YtbhgecmmmkmkjaaDoorItoa
import Derived.Test.YtbhgecmmmkmkjaaDoorLeaf
import Derived.Test.YtbhgecmmmkmkjaaDoorBox
import Derived.Test.YtbhgecmmmkmkjaaDoorWorld
import Derived.Test.YtbhgecmmmkmkjaaDoorCalm
import Derived.Deep.OwnRows
import Derived.OwnWalk
import Derived.Laws.OwnMore
import Derived.Deep.LoopGhost
import Derived.Deep.DeepCutAuto
import Derived.Deep.CutBlock
namespace Go.Proofs.YtbhgecmmmkmkjaaDoor
open Go.RowKit Go.Deep
set_option linter.unusedVariables false
set_option linter.unusedSimpArgs false
set_option maxRecDepth 100000

structure Nt where
  t : Int
  w : Int
  a : Int
def nt0 : Nt := ⟨0, 0, 0⟩
def ntC (x : Nt) : List Value := [.int .i64 x.t, .int .i64 x.w, .int .i64 x.a]
def ntL : List Nt → List Value
  | [] => []
  | x :: l => ntC x ++ ntL l
theorem ntL_len : ∀ l, (ntL l).length = l.length * 3
  | [] => rfl
  | x :: l => by rw [ntL, List.length_append, ntL_len l]; simp [ntC]; omega
theorem ntL_app : ∀ l m, ntL (l ++ m) = ntL l ++ ntL m
  | [], m => rfl
  | x :: l, m => by rw [List.cons_append, ntL, ntL, ntL_app l m, List.append_assoc]
theorem ntL_get {i j : Nat} (hj : j < 3) : ∀ l, i < l.length → (ntL l)[i * 3 + j]? = (ntC (l.getD i nt0))[j]? := by
  intro l
  induction l generalizing i with
  | nil => intro h; simp at h
  | cons x l ih =>
    intro h
    cases i with
    | zero =>
      rw [ntL, List.getElem?_append_left (by simp [ntC]; omega)]
      simp [List.getD]
    | succ i =>
      rw [ntL, List.getElem?_append_right (by simp [ntC]; omega)]
      rw [show (i + 1) * 3 + j - (ntC x).length = i * 3 + j by simp [ntC]; omega]
      rw [ih (by simpa using h)]
      simp [List.getD]
/-- A list of notes, as it lies; nil let in. -/
def Notes (w : World) (A : Option Addr) (n : Nat) (l : List Nt) : Prop :=
  l.length = n ∧ (0 < n → ∃ b off, A = some ⟨b, off, none⟩ ∧ b < w.heap.size ∧ ∀ i, i < n → w.cell? ⟨b, off + i * 3, none⟩ = some (.int .i64 (l.getD i nt0).t) ∧ w.cell? ⟨b, off + i * 3 + 1, none⟩ = some (.int .i64 (l.getD i nt0).w) ∧ w.cell? ⟨b, off + i * 3 + 2, none⟩ = some (.int .i64 (l.getD i nt0).a))
theorem Notes.below {w w' : World} {A : Option Addr} {n : Nat} {l : List Nt} (h : Notes w A n l) (hb : Below w.heap.size w w') : Notes w' A n l := ⟨h.1, fun h0 => by
  obtain ⟨b, off, e, hl, hc⟩ := h.2 h0
  exact ⟨b, off, e, Nat.lt_of_lt_of_le hl hb.size, fun i hi => ⟨(hb.cell (p := ⟨b, off + i * 3, none⟩) hl).trans (hc i hi).1, (hb.cell (p := ⟨b, off + i * 3 + 1, none⟩) hl).trans (hc i hi).2.1, (hb.cell (p := ⟨b, off + i * 3 + 2, none⟩) hl).trans (hc i hi).2.2⟩⟩⟩
theorem Notes.at_ {w : World} {A : Option Addr} {n : Nat} {l : List Nt} (h : Notes w A n l) {i : Nat} (hi : i < n) : ∃ b off, A = some ⟨b, off, none⟩ ∧ b < w.heap.size ∧ w.cell? ⟨b, off + i * 3, none⟩ = some (.int .i64 (l.getD i nt0).t) ∧ w.cell? ⟨b, off + i * 3 + 1, none⟩ = some (.int .i64 (l.getD i nt0).w) ∧ w.cell? ⟨b, off + i * 3 + 2, none⟩ = some (.int .i64 (l.getD i nt0).a) := by
  obtain ⟨b, off, e, hl, hc⟩ := h.2 (by omega)
  exact ⟨b, off, e, hl, (hc i hi).1, (hc i hi).2.1, (hc i hi).2.2⟩
theorem Notes.none_ (w : World) (A : Option Addr) : Notes w A 0 [] := ⟨rfl, fun h => absurd h (by omega)⟩
theorem Notes.of_own {w : World} {base e n : Nat} {v : Value} {l : List Nt} (h : w.ownsRow base e 3 v n (ntL l)) (hn : l.length = n) : ∃ B d, v = .slice B n d ∧ n ≤ d ∧ Notes w B n l := by
  rcases h.2 with ⟨hv, h0⟩ | ⟨g, cap, cur, hv, hg, hh, hnc, h1, h2, h3⟩
  · exact ⟨none, 0, by rw [hv, h0], by omega, hn, fun h => by omega⟩
  · refine ⟨_, _, hv, hnc, hn, fun _ => ⟨g, 0, rfl, (Array.getElem?_eq_some_iff.1 hh).1, fun i hi => ?_⟩⟩
    have hf : ∀ j, j < 3 → w.cell? ⟨g, i * 3 + j, none⟩ = (ntC (l.getD i nt0))[j]? := fun j hj => by
      have hlt : i * 3 + j < n * 3 := by omega
      have h4 := ntL_get hj l (i := i) (by omega)
      rw [← h3, List.getElem?_take_of_lt hlt] at h4
      unfold World.cell?
      rw [hh]
      simpa using h4
    rw [Nat.zero_add]
    exact ⟨hf 0 (by omega), hf 1 (by omega), hf 2 (by omega)⟩
theorem Notes.of_rows {w : World} {A : Option Addr} {n : Nat} {rs : List (List Value)} (h : Rows [.int .i64, .int .i64, .int .i64] w A n rs) : ∃ l, Notes w A n l := by
  let f : Nat → Nat → Int := fun i j => match (rs.getD i []).getD j undef with | .int _ x => x | _ => 0
  refine ⟨(List.range n).map fun i => ⟨f i 0, f i 1, f i 2⟩, by simp, fun h0 => ?_⟩
  obtain ⟨b, off, e, hb, hc⟩ := h.2.2 h0
  refine ⟨b, off, e, hb, fun i hi => ?_⟩
  have hg : ((List.range n).map fun i => (⟨f i 0, f i 1, f i 2⟩ : Nt)).getD i nt0 = ⟨f i 0, f i 1, f i 2⟩ := by simp [List.getD, hi]
  rw [hg]
  have hf : ∀ j, j < 3 → w.cell? ⟨b, off + (i * 3 + j), none⟩ = some (.int .i64 (f i j)) := fun j hj => by
    have h1 := hc i hi j (by simpa using hj)
    obtain ⟨_, hk⟩ := h.2.1 i hi
    obtain ⟨x, hx, _⟩ := hk j (.int .i64) (by match j, hj with | 0, _ => rfl | 1, _ => rfl | 2, _ => rfl)
    have e3 : [TypeDesc.int .i64, .int .i64, .int .i64].length = 3 := rfl
    rw [e3, hx] at h1
    rw [h1]
    show _ = some (Value.int .i64 (match (rs.getD i []).getD j undef with | .int _ x => x | _ => 0))
    rw [hx]
  exact ⟨hf 0 (by omega), hf 1 (by omega), hf 2 (by omega)⟩
theorem note_info : (Tryd.prog.info? 31).map (fun i => (i.zero, i.size, i.bytes)) = some (some (.agg #[.int .i64 0, .int .i64 0, .int .i64 0]), 3, 24) := by kernel_rfl
/-- 'append' of one note. -/
theorem app_note {ops : Array Oper} {rest : List Oper} {o : Oper} {a : Act} {Q : Exit → Act → World → Prop} {w : World} (hgd : o.guard = none) (s x : Operand)
    (ho : o.op = .call { callee := .builtin .append, args := #[s, x], argTypes := #[29, 29] }) {base n : Nat} {cs : List Value} {v : Value} (y0 y1 y2 : Int)
    (hs : a.eval s = v) (hx : a.eval x = .slice (some ⟨w.heap.size, 0, none⟩) 1 1) (hown : w.ownsRow base 31 3 v n cs) (hb : base ≤ w.heap.size) (hn : n ≤ 1000000)
    (hK : ∀ v' w', w'.ownsRow base 31 3 v' (n + 1) (cs ++ [.int .i64 y0, .int .i64 y1, .int .i64 y2]) → (w.alloc (.cells #[.int .i64 y0, .int .i64 y1, .int .i64 y2] 31)).grownBy w' v.ownBlock → wpList Tryd.prog ops Q rest (a.put o.dst v') w') :
    wpList Tryd.prog ops Q (o :: rest) a (w.alloc (.cells #[.int .i64 y0, .int .i64 y1, .int .i64 y2] 31)) := by
  obtain ⟨i0, hi0, hz0, hz1, hz2⟩ := info_parts note_info
  refine wpList_append_own _ hgd s x 29 ho base 31 i0 _ 3 24 Tryd.underlying29 hi0 hz0 hz1 hz2 rfl (by decide) v n cs hs (hown.alloc _) ⟨w.heap.size, 0, none⟩ 1 1 [.int .i64 y0, .int .i64 y1, .int .i64 y2] hx rfl ?_ ?_ ?_ ?_ ?_ (fun v' w' h1 h2 _ => hK v' w' h1 h2)
  · intro j u hj
    match j, hj with
    | 0, hj => simp at hj; subst hj; simp [Addr.add]
    | 1, hj => simp at hj; subst hj; simp [Addr.add]
    | 2, hj => simp at hj; subst hj; simp [Addr.add]
  · intro u hu
    simp at hu
    rcases hu with rfl | rfl | rfl <;> rfl
  · unfold maxLen; omega
  · omega
  · simp; omega
/-- A list of notes that a call has put together so far. -/
def GrownN (w : World) (l : List Nt) (v : Value) (wr : World) : Prop := wr.ownsRow w.heap.size 31 3 v l.length (ntL l) ∧ Below w.heap.size w wr
theorem GrownN.nil (w : World) : GrownN w [] (.slice none 0 0) w := ⟨World.ownsRow_nil _ _ _ _, Below.refl _ _⟩
theorem GrownN.form {w wr : World} {l : List Nt} {v : Value} (h : GrownN w l v wr) : ∃ B d, v = .slice B l.length d ∧ l.length ≤ d ∧ Notes wr B l.length l := Notes.of_own h.1 rfl
theorem GrownN.next {w wr w1 : World} {l : List Nt} {v v' : Value} {x : Nt} {o : Obj} (h : GrownN w l v wr)
    (ho : w1.ownsRow w.heap.size 31 3 v' (l.length + 1) (ntL l ++ [.int .i64 x.t, .int .i64 x.w, .int .i64 x.a])) (hg : (wr.alloc o).grownBy w1 v.ownBlock) : GrownN w (l ++ [x]) v' w1 := by
  refine ⟨?_, (h.2.alloc h.2.size _).grown hg (by have := h.2.size; simp; omega) (fun g hg => by have := (h.1.lt g hg).1; omega)⟩
  rw [ntL_app, List.length_append]
  exact ho
theorem own_keep {w w1 : World} {base e n sz : Nat} {v : Value} {cs : List Value} (h : w.ownsRow base e sz v n cs) (hb : Below w.heap.size w w1) : w1.ownsRow base e sz v n cs := by
  refine ⟨h.1, ?_⟩
  rcases h.2 with h2 | ⟨g, cap, cur, hv, hg, hh, r⟩
  · exact .inl h2
  · exact .inr ⟨g, cap, cur, hv, hg, by rw [hb.block g (Array.getElem?_eq_some_iff.1 hh).1]; exact hh, r⟩
theorem GrownN.below {w wr w1 : World} {l : List Nt} {v : Value} (h : GrownN w l v wr) (hb : Below wr.heap.size wr w1) : GrownN w l v w1 := ⟨own_keep h.1 hb, Below.trans h.2 (hb.mono h.2.size)⟩

/-- What was since a tick. -/
def sinceL (l : List Nt) (tick : Int) : Nat → List Nt
  | 0 => []
  | k + 1 => if tick ≤ (l.getD k nt0).t then sinceL l tick k ++ [l.getD k nt0] else sinceL l tick k
theorem sinceL_len (l : List Nt) (tick : Int) : ∀ k, (sinceL l tick k).length ≤ k
  | 0 => Nat.le_refl _
  | k + 1 => by
    have := sinceL_len l tick k
    unfold sinceL
    split
    · simp; omega
    · omega
end Go.Proofs.YtbhgecmmmkmkjaaDoor
