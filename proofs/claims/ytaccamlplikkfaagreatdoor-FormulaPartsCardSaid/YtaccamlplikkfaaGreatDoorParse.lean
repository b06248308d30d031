/- A text is parsed: contract of formula's parse. -/
import Derived.Test.YtaccamlplikkfaaGreatDoorSplit
import Derived.Maps.AppendAt
import Derived.Lib.AtoiAllCases
namespace Go.Proofs.YtaccamlplikkfaaGreatDoor
open Go.RowKit Go.Shelf
set_option linter.unusedVariables false
set_option linter.unusedSimpArgs false
set_option maxRecDepth 100000

def rgt (l : List Tm) : Bool := rtB (fun i => l.getD i ⟨0, 0, 0⟩) l.length
/-- Is a piece a word? -/
def gdB (p : List UInt8) : Bool := myB (tmP p) && decide (wdL (tmP p) = p)
theorem pa_bad {p : List UInt8} (h : gdB p = false) (r : List (List UInt8)) (acc : List Tm) : paF rgt (p :: r) acc = ([], 1) := by
  show (if myB (tmP p) = true ∧ wdL (tmP p) = p then _ else _) = _
  rw [if_neg]
  intro h2
  unfold gdB at h
  rw [h2.1, decide_eq_true h2.2] at h
  cases h
theorem pa_good {p : List UInt8} (h : gdB p = true) (r : List (List UInt8)) (acc : List Tm) : paF rgt (p :: r) acc = if acc.length = 40 then ([], 2) else paF rgt r (acc ++ [tmP p]) := by
  show (if myB (tmP p) = true ∧ wdL (tmP p) = p then _ else _) = _
  unfold gdB at h
  simp only [Bool.and_eq_true, decide_eq_true_eq] at h
  rw [if_pos h]
theorem pa_run : ∀ (ini : List (List UInt8)) (acc : List Tm) (r : List (List UInt8)), (∀ p ∈ ini, gdB p = true) → acc.length + ini.length ≤ 40 → paF rgt (ini ++ r) acc = paF rgt r (acc ++ ini.map tmP)
  | [], acc, r, _, _ => by simp
  | p :: ini, acc, r, h, hl => by
    simp only [List.length_cons] at hl
    rw [List.cons_append, pa_good (h p (by simp)), if_neg (by omega), pa_run ini _ r (fun q hq => h q (by simp [hq])) (by simp; omega)]
    simp
theorem cnt_le (l : List UInt8) : cntF l ≤ 9223372036854775807 := by
  unfold cntF
  split
  · rename_i v h; exact (Lib.atoiAll_bounds h).2
  · omega
theorem tm_le (l : List UInt8) : (tmP l).b ≤ 9223372036854775807 := by
  unfold tmP
  repeat' split
  all_goals first | exact cnt_le _ | (show (0 : Int) ≤ _; omega)

def tmC (t : Tm) : List Value := [.int .i64 t.op, .int .i64 t.a, .int .i64 t.b]
def pcT (pre : List Piece) : List Tm := pre.map fun x => tmP x.1.data.toList
def pcC (pre : List Piece) : List Value := (pcT pre).flatMap tmC
theorem pcT_app (pre : List Piece) (x : Piece) : pcT (pre ++ [x]) = pcT pre ++ [tmP x.1.data.toList] := by simp [pcT]
theorem pcC_app (pre : List Piece) (x : Piece) : pcC (pre ++ [x]) = pcC pre ++ tmC (tmP x.1.data.toList) := by simp [pcC, pcT]
theorem pcT_map (pre : List Piece) : pcT pre = (pcL pre).map tmP := by simp [pcT, pcL]
/-- What is said of a parsed text. -/
def ParseR (s : ByteArray) (em ep : Value) (v : Value) (w : World) : Prop :=
  (∃ l A c, paF rgt (splS s.data.toList) [] = (l, 0) ∧ v = .tuple #[.slice A l.length c, .nilIface] ∧ Terms w A l.length (fun i => l.getD i ⟨0, 0, 0⟩) ∧ l.length ≤ c) ∨
  (∃ q, paF rgt (splS s.data.toList) [] = ([], 1) ∧ v = .tuple #[.slice none 0 0, .iface 64 (.agg #[.string q])]) ∨
  (paF rgt (splS s.data.toList) [] = ([], 2) ∧ v = .tuple #[.slice none 0 0, em]) ∨
  (paF rgt (splS s.data.toList) [] = ([], 3) ∧ v = .tuple #[.slice none 0 0, ep])
/-- Where a round has left. -/
def PaOut (em : Value) (pre : List Piece) (ev : Value) : Prop := ∃ ini last, pre = ini ++ [last] ∧ (∀ x ∈ ini, gdB x.1.data.toList = true) ∧ ini.length ≤ 40 ∧
  ((gdB last.1.data.toList = false ∧ ev = .iface 64 (.agg #[.string last.1])) ∨ (gdB last.1.data.toList = true ∧ ini.length = 40 ∧ ev = em))

theorem infoTerm : (Tryz.prog.info? 35).map (fun i => (i.zero, i.size, i.bytes)) = some (some (.agg #[.int .i64 0, .int .i64 0, .int .i64 0]), 3, 24) := by kernel_rfl

theorem row_far {W : World} {base B size n : Nat} {e : TypeId} {v u : Value} {xs : List Value} (h : W.ownsRow base e size v n xs) (hB : B < base) : (W.setCell ⟨B, 0, none⟩ u).ownsRow base e size v n xs := by
  refine h.kept (grownBy_setCell' W B u) ?_
  rcases h.2 with ⟨rfl, _⟩ | ⟨g, cap, cur, rfl, hb, _⟩
  · exact .inl rfl
  · refine .inr fun e' => ?_
    have : g = B := by simpa [Value.ownBlock] using e'
    omega
theorem row_form {W : World} {base size n : Nat} {e : TypeId} {v : Value} {xs : List Value} (h : W.ownsRow base e size v n xs) : ∃ A c, v = .slice A n c := by
  rcases h.2 with ⟨rfl, rfl⟩ | ⟨g, cap, cur, rfl, _⟩
  · exact ⟨_, _, rfl⟩
  · exact ⟨_, _, rfl⟩
theorem keeps_below {W X : World} (h : Below W.heap.size W X) : KeepsOthers W X := ⟨h.size, fun k o hk _ => (h.block k (Array.getElem?_eq_some_iff.1 hk).1).trans hk⟩
theorem kp3_put {B : Nat} {A : World} (hA : A.heap.size = B + 3) (W : World) (l : Nat) (o o' : Obj) (hl : A.heap.size ≤ l) (_ : W.heap[l]? = some o) (_ : o.isCells = false) (_ : o.isWalk = false) : Kp3 B W (W.putObj l o') :=
  ⟨by simp, fun b h1 h2 => World.putObj_heap_other (by omega)⟩
theorem kp3_trans {B : Nat} {X Y Z : World} (h : Kp3 B X Y) (k : Kp3 B Y Z) : Kp3 B X Z :=
  ⟨Nat.le_trans h.1 k.1, fun b h1 h2 => (k.2 b h1 h2).trans (h.2 b h1 h2)⟩
theorem kp3_below {B : Nat} {X Y : World} (h : Below X.heap.size X Y) (hX : B + 3 ≤ X.heap.size) : Kp3 B X Y := ⟨h.size, fun b h1 h2 => h.block b (by omega)⟩
theorem kp3_set {B C : Nat} {X : World} (u : Value) (h : C < B ∨ B + 3 ≤ C) : Kp3 B X (X.setCell ⟨C, 0, none⟩ u) :=
  ⟨by rw [size_setCell]; exact Nat.le_refl _, fun b h1 h2 => by
    by_cases hb : b < X.heap.size
    · exact (grownBy_setCell' X C u).block b hb (by simp; omega)
    · exact (Array.getElem?_eq_none (by rw [size_setCell]; omega)).trans (Array.getElem?_eq_none (by omega)).symm⟩
theorem row_below {W X : World} {base size n : Nat} {e : TypeId} {v : Value} {xs : List Value} (h : W.ownsRow base e size v n xs) (hb : Below W.heap.size W X) : X.ownsRow base e size v n xs := by
  refine ⟨h.1, ?_⟩
  rcases h.2 with hn | ⟨g, cap, cur, hv, hg, hc, rest⟩
  · exact .inl hn
  · exact .inr ⟨g, cap, cur, hv, hg, (hb.block g (Array.getElem?_eq_some_iff.1 hc).1).trans hc, rest⟩
/-- A list in a box is appended to: its row lies from n0 on, the box ahead of it. -/
theorem row_put {W w1 : World} {m n0 L : Nat} {t e : TypeId} {size : Nat} {v v' : Value} {k q : Nat} {xs ys : List Value} {tmp : Obj}
    (hv : Boxed W L t v) (hrow : W.ownsRow n0 e size v k xs) (hL : L < n0) (hm : m ≤ L) (hn : n0 ≤ W.heap.size) (hown' : w1.ownsRow n0 e size v' q ys) (hgrow : (W.alloc tmp).grownBy w1 v.ownBlock) :
    Boxed w1 L t v ∧ Boxed (w1.setCell ⟨L, 0, none⟩ v') L t v' ∧ (w1.setCell ⟨L, 0, none⟩ v').ownsRow n0 e size v' q ys ∧ KeepsOthers W (w1.setCell ⟨L, 0, none⟩ v') ∧ Below m W (w1.setCell ⟨L, 0, none⟩ v') ∧
      ∀ b, b < n0 → b ≠ L → (w1.setCell ⟨L, 0, none⟩ v').heap[b]? = W.heap[b]? := by
  have far : ∀ b, b < n0 → some b ≠ v.ownBlock := fun b hb e => by
    rcases hrow.2 with ⟨rfl, _⟩ | ⟨g, cap, cur, rfl, hg, _⟩
    · simp [Value.ownBlock] at e
    · have : b = g := by simpa [Value.ownBlock] using e
      omega
  have h1 : Boxed w1 L t v := (hv.alloc tmp).kept hgrow (far L hL)
  refine ⟨h1, h1.set v', row_far hown' hL, ?_, ?_, ?_⟩
  · refine ((KeepsOthers.alloc W tmp).trans (KeepsOthers.of_grownBy hgrow fun j o ej hj => ?_)).trans (KeepsOthers.setCell _ _ _)
    rcases (hrow.alloc tmp).2 with ⟨rfl, _⟩ | ⟨g, cap, cur, rfl, _, hgb, _⟩
    · simp [Value.ownBlock] at ej
    · obtain rfl : g = j := by simpa [Value.ownBlock] using ej
      rw [hgb] at hj; cases hj; rfl
  · refine (((Below.refl m W).alloc (by omega) tmp).grown hgrow (by simp; omega) fun j ej => ?_).setCell (p := ⟨L, 0, none⟩) hm v'
    rcases hrow.2 with ⟨rfl, _⟩ | ⟨g, cap, cur, rfl, hb, _, _⟩
    · simp [Value.ownBlock] at ej
    · obtain rfl : g = j := by simpa [Value.ownBlock] using ej
      omega
  · intro b hb hbL
    have h2 : (w1.setCell ⟨L, 0, none⟩ v').heap[b]? = w1.heap[b]? := by
      by_cases h : b < w1.heap.size
      · exact (grownBy_setCell' w1 L v').block b h (by simp; exact hbL)
      · exact (Array.getElem?_eq_none (by rw [size_setCell]; omega)).trans (Array.getElem?_eq_none (by omega)).symm
    have h3 : w1.heap[b]? = (W.alloc tmp).heap[b]? := hgrow.block b (by simp; omega) (far b hb)
    have h4 : (W.alloc tmp).heap[b]? = W.heap[b]? := ((Below.refl W.heap.size W).alloc (Nat.le_refl _) tmp).block b (by omega)
    exact h2.trans (h3.trans h4)
theorem cells_three (w : World) (x y z : Value) (t : TypeId) : ∀ j u, [x, y, z][j]? = some u → (w.alloc (.cells #[x, y, z] t)).cell? ((⟨w.heap.size, 0, none⟩ : Addr).add j) = some u := by
  intro j u hj
  have e : ((⟨w.heap.size, 0, none⟩ : Addr).add j) = ⟨w.heap.size, j, none⟩ := by
    unfold Addr.add
    by_cases h : j = 0
    · subst h; rfl
    · simp [h]
  rw [e, (box_new w #[x, y, z] t).2.1 j, ← hj]
  simp
theorem flat_at : ∀ (l : List Tm) (i : Nat), i < l.length → (l.flatMap tmC)[i * 3]? = some (.int .i64 (l.getD i ⟨0, 0, 0⟩).op) ∧ (l.flatMap tmC)[i * 3 + 1]? = some (.int .i64 (l.getD i ⟨0, 0, 0⟩).a) ∧ (l.flatMap tmC)[i * 3 + 2]? = some (.int .i64 (l.getD i ⟨0, 0, 0⟩).b)
  | [], _, h => absurd h (by simp)
  | t :: l, 0, _ => ⟨rfl, rfl, rfl⟩
  | t :: l, i + 1, h => by
    have ih := flat_at l i (by simpa using h)
    rw [show (t :: l).flatMap tmC = .int .i64 t.op :: .int .i64 t.a :: .int .i64 t.b :: l.flatMap tmC from rfl, show (i + 1) * 3 = i * 3 + 3 by omega]
    simpa using ih
theorem terms_row {W : World} {base n c : Nat} {A : Option Addr} {l : List Tm} (h : W.ownsRow base 35 3 (.slice A n c) n (l.flatMap tmC)) (hl : l.length = n) (hb : ∀ t ∈ l, t.b ≤ 9223372036854775807) : Terms W A n (fun i => l.getD i ⟨0, 0, 0⟩) ∧ n ≤ c := by
  subst hl
  refine ⟨⟨fun i hi => ?_, fun h0 => ?_⟩, ?_⟩
  · show (l.getD i ⟨0, 0, 0⟩).b ≤ _
    rw [List.getD_eq_getElem?_getD, List.getElem?_eq_getElem hi]
    exact hb _ (List.getElem_mem hi)
  · rcases h.2 with ⟨_, e⟩ | ⟨g, cap, cur, e, hg, hc, _⟩
    · omega
    · cases e
      have hk := h.cells (g := g) rfl
      refine ⟨g, 0, rfl, (Array.getElem?_eq_some_iff.1 hc).1, fun i hi => ?_⟩
      have ad : ∀ j, (⟨g, 0, none⟩ : Addr).add j = ⟨g, j, none⟩ := fun j => by
        unfold Addr.add
        by_cases h : j = 0
        · subst h; rfl
        · simp [h]
      obtain ⟨e1, e2, e3⟩ := flat_at l i hi
      have h1 := hk _ _ e1
      have h2 := hk _ _ e2
      have h3 := hk _ _ e3
      rw [ad] at h1 h2 h3
      rw [Nat.zero_add]
      exact ⟨h1, h2, h3⟩
  · rcases h.2 with ⟨e, e0⟩ | ⟨g, cap, cur, e, _, _, hcap, _⟩
    · omega
    · simp only [Value.slice.injEq] at e; omega
/-- What stands between two rounds. -/
def PaI (m : Nat) (w : World) (R0 R1 L B : Nat) (pre : List Piece) (W : World) : Prop :=
  ((∃ v, Boxed W L 22 v ∧ W.ownsRow (B + 3) 35 3 v pre.length (pcC pre) ∧ ((∀ x ∈ pre, gdB x.1.data.toList = true) ∧ pre.length ≤ 40)) ∧
    (Boxed W R0 22 (.slice none 0 0) ∧ Boxed W R1 40 .nilIface)) ∧ Below m w W
def PaX (m : Nat) (w : World) (em : Value) (R0 R1 : Nat) (c : Code) (pre : List Piece) (W : World) : Prop :=
  (c = .ret ∧ (∃ ev, Boxed W R1 40 ev ∧ PaOut em pre ev) ∧ Boxed W R0 22 (.slice none 0 0)) ∧ Below m w W
theorem PaI.own {m : Nat} {w : World} {R0 R1 L B S : Nat} (hm : m ≤ w.heap.size) (hS : m ≤ S) : OwnFrom S (PaI m w R0 R1 L B) :=
  OwnFrom.and (OwnFrom.and (Own.from (holdsRow_own (B + 3) L _ _ 3 (fun pre : List Piece => pre.length) pcC (fun pre _ => (∀ x ∈ pre, gdB x.1.data.toList = true) ∧ pre.length ≤ 40)) _)
    (OwnFrom.and (Own.from (boxed_own R0 _ fun _ => _) _) (Own.from (boxed_own R1 _ fun _ => _) _))) (ownFrom_below hm hS)
theorem PaX.own {m : Nat} {w : World} {em : Value} {R0 R1 S : Nat} {c : Code} (hm : m ≤ w.heap.size) (hS : m ≤ S) : OwnFrom S (PaX m w em R0 R1 c) :=
  OwnFrom.and (Own.from (fun s X Y row h hg hr => ⟨h.1, (by
    obtain ⟨ev, hb, ho⟩ := h.2.1
    exact ⟨ev, boxed_own (β := List Piece) R1 _ (fun _ => ev) s X Y row hb hg hr, ho⟩), boxed_own (β := List Piece) R0 _ (fun _ => _) s X Y row h.2.2 hg hr⟩) _) (ownFrom_below hm hS)
theorem PaI.step {m : Nat} {w : World} {R0 R1 L B : Nat} (h0 : R0 < B) (h1 : R1 < B) (hL : L < B) (hmB : m ≤ B) : ∀ s X Y, PaI m w R0 R1 L B s X → StB B X Y → PaI m w R0 R1 L B s Y := by
  rintro s X Y ⟨⟨⟨v, hv, hr, hg⟩, a, b⟩, hb⟩ ⟨q, rfl⟩
  exact ⟨⟨⟨v, hv.other (by omega) _, row_far hr (by omega), hg⟩, a.other (by omega) _, b.other (by omega) _⟩, hb.setCell (p := ⟨B, 0, none⟩) hmB _⟩
theorem PaX.step {m : Nat} {w : World} {em : Value} {R0 R1 B : Nat} (h0 : R0 < B) (h1 : R1 < B) (hmB : m ≤ B) (c : Code) : ∀ s X Y, PaX m w em R0 R1 c s X → StB B X Y → PaX m w em R0 R1 c s Y := by
  rintro s X Y ⟨⟨hc, ⟨ev, a, ho⟩, b⟩, hb⟩ ⟨q, rfl⟩
  exact ⟨⟨hc, ⟨ev, a.other (by omega) _, ho⟩, b.other (by omega) _⟩, hb.setCell (p := ⟨B, 0, none⟩) hmB _⟩

section
attribute [local go_sem] Oper.semAt_some
attribute [local go_sem] cell_set_ite
set_option maxHeartbeats 4000000 in
theorem fo_parse (s : ByteArray) (hs : s.size ≤ 1000) (te tq : TypeId) (pe pq : Value) (w : World) (g : Gl w) (E : Ge w) (hm : w.cell? ⟨0, 0, none⟩ = some (.iface te pe)) (hp : w.cell? ⟨1, 0, none⟩ = some (.iface tq pq)) :
    Calls Tryz.prog 13 #[.string s] w fun e w' => ∃ v, e = .returned v ∧ ParseR s (.iface te pe) (.iface tq pq) v w' ∧ Below w.heap.size w w' := by
  obtain ⟨i0, hi, hz0, hz1, hz2⟩ := info_parts infoTerm
  have n0 : w.heap.size ≠ 0 := by have := cell_lt hm; omega
  have n1 : w.heap.size ≠ 1 := by have := cell_lt hp; omega
  have n2 : ¬ w.heap = #[] := by intro e; have := cell_lt hp; rw [e] at this; simp at this
  refine (callsIn_wide (n := 3)).1 ?_
  refine callsIn_of_wp_marks Tryz.func13 rfl trivial ?_ rfl
  simp only [Tryz.ntmps13, List.size_toArray, List.length_cons, List.length_nil, Nat.reduceAdd, Nat.reduceSub, Array.replicate_succ, Array.replicate_zero, List.push_toArray, List.append_toArray, List.nil_append, List.cons_append]
  gi_wp2_with (refine ⟨trivial, ?_⟩; gi_at_call 25; refine (callsIn_wide.2 (fo_splitSeq _ _)).mono ?_; rintro e w' ⟨rfl, rfl⟩)
  have r0 : Boxed ((((((w.alloc (.cells #[.slice none 0 0] 22)).alloc (.cells #[.nilIface] 40)).alloc (.cells #[.slice none 0 0] 22)).alloc (.cells #[.string s] 9)).alloc (.cells #[.string ⟨#[32]⟩] 9)).alloc (.cells #[.int .i64 0] 3)) w.heap.size 22 (.slice none 0 0) :=
    (((((Boxed.new w _ _).alloc _).alloc _).alloc _).alloc _).alloc _
  have r1 : Boxed ((((((w.alloc (.cells #[.slice none 0 0] 22)).alloc (.cells #[.nilIface] 40)).alloc (.cells #[.slice none 0 0] 22)).alloc (.cells #[.string s] 9)).alloc (.cells #[.string ⟨#[32]⟩] 9)).alloc (.cells #[.int .i64 0] 3)) (w.heap.size + 1) 40 .nilIface := by
    have := Boxed.new (w.alloc (.cells #[.slice none 0 0] 22)) 40 .nilIface
    rw [World.size_alloc] at this
    exact (((this.alloc _).alloc _).alloc _).alloc _
  have bL : Boxed ((((((w.alloc (.cells #[.slice none 0 0] 22)).alloc (.cells #[.nilIface] 40)).alloc (.cells #[.slice none 0 0] 22)).alloc (.cells #[.string s] 9)).alloc (.cells #[.string ⟨#[32]⟩] 9)).alloc (.cells #[.int .i64 0] 3)) (w.heap.size + 1 + 1) 22 (.slice none 0 0) := by
    have := Boxed.new ((w.alloc (.cells #[.slice none 0 0] 22)).alloc (.cells #[.nilIface] 40)) 22 (.slice none 0 0)
    rw [World.size_alloc, World.size_alloc] at this
    exact ((this.alloc _).alloc _).alloc _
  have b3 : Three (w.heap.size + 1 + 1 + 1) ((((((w.alloc (.cells #[.slice none 0 0] 22)).alloc (.cells #[.nilIface] 40)).alloc (.cells #[.slice none 0 0] 22)).alloc (.cells #[.string s] 9)).alloc (.cells #[.string ⟨#[32]⟩] 9)).alloc (.cells #[.int .i64 0] 3)) s := by
    have t1 := Boxed.new (((w.alloc (.cells #[.slice none 0 0] 22)).alloc (.cells #[.nilIface] 40)).alloc (.cells #[.slice none 0 0] 22)) 9 (.string s)
    have t2 := Boxed.new ((((w.alloc (.cells #[.slice none 0 0] 22)).alloc (.cells #[.nilIface] 40)).alloc (.cells #[.slice none 0 0] 22)).alloc (.cells #[.string s] 9)) 9 (.string ⟨#[32]⟩)
    have t3 := Boxed.new (((((w.alloc (.cells #[.slice none 0 0] 22)).alloc (.cells #[.nilIface] 40)).alloc (.cells #[.slice none 0 0] 22)).alloc (.cells #[.string s] 9)).alloc (.cells #[.string ⟨#[32]⟩] 9)) 3 (.int .i64 0)
    simp only [World.size_alloc] at t1 t2 t3
    exact ⟨(t1.alloc _).alloc _, t2.alloc _, t3⟩
  have hB0 : Below w.heap.size w ((((((w.alloc (.cells #[.slice none 0 0] 22)).alloc (.cells #[.nilIface] 40)).alloc (.cells #[.slice none 0 0] 22)).alloc (.cells #[.string s] 9)).alloc (.cells #[.string ⟨#[32]⟩] 9)).alloc (.cells #[.int .i64 0] 3)) := by (repeat (first | (with_reducible exact Below.refl _ _) | (with_reducible assumption) | (with_reducible refine Near.up _ ?_) | (with_reducible refine Below.drew ?_) | (with_reducible refine below_alloc_on ?_ _) | (with_reducible refine below_set_on ?_ (by first | (simp; done) | (simp; omega) | omega) _)))
  have hsz : ((((((w.alloc (.cells #[.slice none 0 0] 22)).alloc (.cells #[.nilIface] 40)).alloc (.cells #[.slice none 0 0] 22)).alloc (.cells #[.string s] 9)).alloc (.cells #[.string ⟨#[32]⟩] 9)).alloc (.cells #[.int .i64 0] 3)).heap.size = w.heap.size + 1 + 1 + 1 + 3 := by simp
  generalize ((((((w.alloc (.cells #[.slice none 0 0] 22)).alloc (.cells #[.nilIface] 40)).alloc (.cells #[.slice none 0 0] 22)).alloc (.cells #[.string s] 9)).alloc (.cells #[.string ⟨#[32]⟩] 9)).alloc (.cells #[.int .i64 0] 3)) = W0 at *
  obtain ⟨B, eB⟩ : ∃ B, w.heap.size + 1 + 1 + 1 = B := ⟨_, rfl⟩
  rw [eB] at b3 hsz ⊢
  obtain ⟨L, eL⟩ : ∃ L, w.heap.size + 1 + 1 = L := ⟨_, rfl⟩
  rw [eL] at bL eB ⊢
  obtain ⟨R1, eR1⟩ : ∃ L, w.heap.size + 1 = L := ⟨_, rfl⟩
  rw [eR1] at r1 eL ⊢
  obtain ⟨q1, q2, q3, q4, q5, q6, q7, q8, q9, q10⟩ : w.heap.size < B ∧ R1 < B ∧ L < B ∧ w.heap.size ≤ B ∧ w.heap.size ≠ R1 ∧ w.heap.size ≠ L ∧ R1 ≠ L ∧ w.heap.size ≤ w.heap.size ∧ w.heap.size ≤ R1 ∧ w.heap.size ≤ L := by omega
  clear eB eL eR1
  have hT := Lib.hid fun (t : ByteArray) (ht : t.size ≤ 1000) w' (hb : Below w.heap.size w w') => fo_term t ht w' (g.below hb) (E.below hb)
  have hW := Lib.hid fun (t : Tm) (ht : myB t = true) w' (hb : Below w.heap.size w w') => fo_word t ht w' (g.below hb)
  have hE := Lib.hid fun w' (hb : Below w.heap.size w w') => (hb.cell (p := ⟨0, 0, none⟩) (cell_lt hm)).trans hm
  have hP := Lib.hid fun w' (hb : Below w.heap.size w w') => (hb.cell (p := ⟨1, 0, none⟩) (cell_lt hp)).trans hp
  refine rf_steps (St := StB B) (Kp := Kp3 B) rfl (show 1 ≤ 3 by decide) (gf := 47) (lb := #[.pointer (some ⟨B + 1, 0, none⟩), .pointer (some ⟨B, 0, none⟩), .pointer (some ⟨B + 2, 0, none⟩)]) rfl trivial (enters_of Tryz.func47 (by kernel_rfl) rfl)
    (fo_splits (3 - 1) (by decide) B s hs W0 b3) (fun X Y h => by obtain ⟨q, rfl⟩ := h; exact KeepsOthers.setCell _ _ _) kp3_trans (kp3_put hsz) (fun _ => rfl)
    (PaI w.heap.size W0 w.heap.size R1 L B) (PaX w.heap.size w (.iface te pe) w.heap.size R1) (PaI.own (by omega) (by omega)) (fun c => PaX.own (Nat.le_refl _) (by omega)) (PaI.step q1 q2 q3 q4) (PaX.step q1 q2 q4)
    ⟨⟨⟨_, bL, World.ownsRow_nil _ _ _ _, by simp, Nat.zero_le _⟩, r0, r1⟩, Below.refl _ _⟩
    (fun x => { tmps := #[.string s, undef, .pointer (some ⟨w.heap.size, 0, none⟩), .pointer (some ⟨R1, 0, none⟩), .pointer (some ⟨L, 0, none⟩), .string x.1, undef, .string s, .func (.func 47) #[] #[.pointer (some ⟨B + 1, 0, none⟩), .pointer (some ⟨B, 0, none⟩), .pointer (some ⟨B + 2, 0, none⟩)], .string x.1, undef, undef, undef, undef, undef, undef, undef, undef, undef, undef, undef, undef, undef, undef, undef, undef, undef, undef, undef, undef, undef, undef, undef, undef, undef, undef, undef], defers := [] }) ?assign ?body ?done ?stop
  case assign =>
    intro l x W K hK
    gi_wp2
    exact hK
  case body =>
    rintro l pre ⟨q, hq⟩ W ⟨⟨⟨v, hv, hr, hg, h40⟩, a0, a1⟩, hB'⟩ hlt
    have hB := hB0.trans hB'
    have hz : B + 3 ≤ W.heap.size := by rw [← hsz]; exact hB'.size
    have cv := hv.cell
    have c0 := a0.cell
    have c1 := a1.cell
    have f0 := a0.frozen
    have f1 := a1.frozen
    have fv := hv.frozen
    obtain ⟨⟨op, a, b⟩, ht⟩ : ∃ t, tmP q.data.toList = t := ⟨_, rfl⟩
    have hbd : b ≤ 9223372036854775807 := by have := tm_le q.data.toList; rw [ht] at this; exact this
    have HT := Lib.hid ht
    have HSZ : Hid (B + 3 ≤ W.heap.size) := Lib.hid hz
    have KT : Hid (Calls Tryz.prog 26 #[.string q] W fun e w' => e = .returned (.agg #[.int .i64 op, .int .i64 a, .int .i64 b]) ∧ Below W.heap.size W w') := Lib.hid (by have := hT.out q hq W hB; rw [ht] at this; exact this)
    have KM := Lib.hid fun W => fo_may op a b hbd W
    have A0 : Below W.heap.size W W := Below.refl _ _
    obtain ⟨va, vc, rfl⟩ := row_form hr
    obtain ⟨n, hn⟩ : ∃ n, pre.length = n := ⟨_, rfl⟩
    rw [hn] at hv hr cv h40
    have HN := Lib.hid hn
    have HR := Lib.hid hr
    have HLT := Lib.hid hlt
    clear hr hn hlt
    by_cases hmy : myB ⟨op, a, b⟩ = true
    · rw [hmy] at KM
      obtain ⟨wd, hwd⟩ : ∃ x : ByteArray, (⟨(wdL ⟨op, a, b⟩).toArray⟩ : ByteArray) = x := ⟨_, rfl⟩
      have KW : Hid (∀ w', Below W.heap.size W w' → Calls Tryz.prog 11 #[.agg #[.int .i64 op, .int .i64 a, .int .i64 b]] w' fun e w'' => e = .returned (.string wd) ∧ Below w'.heap.size w' w'') := Lib.hid fun w' (h : Below W.heap.size W w') => hwd ▸ hW.out ⟨op, a, b⟩ hmy w' (hB.trans (h.mono hB.size))
      have ew : wd.toList = wdL ⟨op, a, b⟩ := by rw [← hwd, ByteArray.toList_eq]
      have HG := Lib.hid hg
      have HMY := Lib.hid hmy
      clear hmy hg ht hwd hbd
      by_cases hsame : wd.toList = q.toList
      · have s1 : (wd.toList == q.toList) = true := by rw [beq_iff_eq]; exact hsame
        have HGD : Hid (gdB q.data.toList = true) := Lib.hid (by
          unfold gdB
          rw [HT.out, HMY.out, Bool.true_and, decide_eq_true_eq, ← ew, hsame, ByteArray.toList_eq])
        clear hsame ew
        by_cases hl : n = 40
        · have l1 : ((n : Int) == 40) = true := by rw [beq_iff_eq]; omega
          have HL := Lib.hid hl
          clear hl h40
          gi_wp2_with (first
            | (refine ⟨trivial, ?_⟩; gi_at_call 26; refine (CallsIn.inRound l (callsIn_wide.2 KT.out)).mono ?_; rintro e w1 ⟨rfl, hb1⟩; have X1 := box_new w1 #[.int .i64 op, .int .i64 a, .int .i64 b] 35; have B1 : Below W.heap.size W (w1.alloc (.cells #[.int .i64 op, .int .i64 a, .int .i64 b] 35)) := hb1.alloc hb1.size _)
            | (refine ⟨trivial, ?_⟩; gi_at_call 15; refine (CallsIn.inRound l (callsIn_wide.2 (KM.out _))).mono ?_; rintro e w2 ⟨rfl, hb2⟩; have X2 := (X1.below hb2).three; obtain ⟨x0, x1, x2, xf, xl⟩ := X2; have B2 := below_call B1 hb2)
            | (refine ⟨trivial, ?_⟩; gi_at_call 11; refine (CallsIn.inRound l (callsIn_wide.2 (KW.out _ B2))).mono ?_; rintro e w3 ⟨rfl, hb3⟩; have X3 := ((X1.below hb2).below hb3).three; obtain ⟨y0, y1, y2, yf, yl⟩ := X3; have B3 := below_call B2 hb3; have v3 : Boxed w3 L _ (.slice va n vc) := (B3.block _ hv.lt).trans hv; have z0 : Boxed w3 w.heap.size _ (.slice none 0 0) := (B3.block _ a0.lt).trans a0; have z1 : Boxed w3 R1 _ .nilIface := (B3.block _ a1.lt).trans a1; have d0 := z0.cell; have d1 := z1.cell; have dv := v3.cell; have g0 := z0.frozen; have g1 := z1.frozen; have gv := v3.frozen; have de := hE.out w3 (hB.trans (B3.mono hB.size))))
          all_goals gi_wp2
          refine wpIn_region_any (by kernel_rfl) ?_
          refine wpAnyIn_ready (rs := [0, 1]) (by kernel_rfl) (by decide) (AllReadyIn.cons rfl (fun K' hK => ?_) (AllReadyIn.cons rfl (fun K' hK => ?_) AllReadyIn.nil))
          · change Oper.wpIn _ _ _ _ _ _ _ _
            unfold Oper.wpIn
            refine ⟨fun f hf => trivial, ?_⟩
            simp [go_sem, execOp, de, d0, d1, g0, g1, cell_set_ite, q5, Ne.symm q5, n0, n2, World.cell?_drew, World.frozen?_drew]
            refine hK _ _ ?_
            refine wpAnyIn_ready (rs := [1]) (by kernel_rfl) (by decide) (AllReadyIn.cons rfl (fun K' hK => ?_) AllReadyIn.nil)
            change Oper.wpIn _ _ _ _ _ _ _ _
            unfold Oper.wpIn
            refine ⟨fun f hf => trivial, ?_⟩
            simp [go_sem, execOp, de, d0, d1, g0, g1, cell_set_ite, q5, Ne.symm q5, n0, n2, World.cell?_drew, World.frozen?_drew]
            refine hK _ _ ?_
            refine wpAnyIn_ready (rs := [2]) (by kernel_rfl) (by decide) (AllReadyIn.cons rfl (fun K' hK => ?_) AllReadyIn.nil)
            change Oper.wpIn _ _ _ _ _ _ _ _
            unfold Oper.wpIn
            refine ⟨fun f hf => trivial, ?_⟩
            simp [go_sem, execOp, de, d0, d1, g0, g1, cell_set_ite, q5, Ne.symm q5, n0, n2, World.cell?_drew, World.frozen?_drew]
            refine hK _ _ ?_
            refine wpAnyIn_done (by kernel_rfl) ?_ _
            gi_wp2
            exact ⟨(((keeps_below B3).trans (KeepsOthers.setCell _ _ _)).trans (KeepsOthers.setCell _ _ _)).trans (KeepsOthers.drew _), ⟨rfl, ⟨_, (z1.other (Ne.symm q5) _).set _, pre, ⟨q, hq⟩, rfl, HG.out, by rw [HN.out, HL.out]; exact Nat.le_refl _, .inr ⟨HGD.out, by rw [HN.out, HL.out], rfl⟩⟩, (z0.set _).other q5 _⟩, (((hB.trans (B3.mono hB.size)).setCell (p := ⟨w.heap.size, 0, none⟩) (Nat.le_refl _) _).setCell (p := ⟨R1, 0, none⟩) q9 _).drew⟩
          · change Oper.wpIn _ _ _ _ _ _ _ _
            unfold Oper.wpIn
            refine ⟨fun f hf => trivial, ?_⟩
            simp [go_sem, execOp, de, d0, d1, g0, g1, cell_set_ite, q5, Ne.symm q5, n0, n2, World.cell?_drew, World.frozen?_drew]
            refine hK _ _ ?_
            refine wpAnyIn_ready (rs := [0]) (by kernel_rfl) (by decide) (AllReadyIn.cons rfl (fun K' hK => ?_) AllReadyIn.nil)
            change Oper.wpIn _ _ _ _ _ _ _ _
            unfold Oper.wpIn
            refine ⟨fun f hf => trivial, ?_⟩
            simp [go_sem, execOp, de, d0, d1, g0, g1, cell_set_ite, q5, Ne.symm q5, n0, n2, World.cell?_drew, World.frozen?_drew]
            refine hK _ _ ?_
            refine wpAnyIn_ready (rs := [2]) (by kernel_rfl) (by decide) (AllReadyIn.cons rfl (fun K' hK => ?_) AllReadyIn.nil)
            change Oper.wpIn _ _ _ _ _ _ _ _
            unfold Oper.wpIn
            refine ⟨fun f hf => trivial, ?_⟩
            simp [go_sem, execOp, de, d0, d1, g0, g1, cell_set_ite, q5, Ne.symm q5, n0, n2, World.cell?_drew, World.frozen?_drew]
            refine hK _ _ ?_
            refine wpAnyIn_done (by kernel_rfl) ?_ _
            gi_wp2
            exact ⟨(((keeps_below B3).trans (KeepsOthers.setCell _ _ _)).trans (KeepsOthers.setCell _ _ _)).trans (KeepsOthers.drew _), ⟨rfl, ⟨_, (z1.other (Ne.symm q5) _).set _, pre, ⟨q, hq⟩, rfl, HG.out, by rw [HN.out, HL.out]; exact Nat.le_refl _, .inr ⟨HGD.out, by rw [HN.out, HL.out], rfl⟩⟩, (z0.set _).other q5 _⟩, (((hB.trans (B3.mono hB.size)).setCell (p := ⟨w.heap.size, 0, none⟩) (Nat.le_refl _) _).setCell (p := ⟨R1, 0, none⟩) q9 _).drew⟩
        · have l1 : ((n : Int) == 40) = false := by rw [beq_eq_false_iff_ne]; omega
          have ML : 140737488355328 ≤ maxLen := by decide
          gi_wp2_with (first
            | (refine ⟨trivial, ?_⟩; gi_at_call 26; refine (CallsIn.inRound l (callsIn_wide.2 KT.out)).mono ?_; rintro e w1 ⟨rfl, hb1⟩; have X1 := box_new w1 #[.int .i64 op, .int .i64 a, .int .i64 b] 35; have B1 : Below W.heap.size W (w1.alloc (.cells #[.int .i64 op, .int .i64 a, .int .i64 b] 35)) := hb1.alloc hb1.size _)
            | (refine ⟨trivial, ?_⟩; gi_at_call 15; refine (CallsIn.inRound l (callsIn_wide.2 (KM.out _))).mono ?_; rintro e w2 ⟨rfl, hb2⟩; have X2 := (X1.below hb2).three; obtain ⟨x0, x1, x2, xf, xl⟩ := X2; have B2 := below_call B1 hb2)
            | (refine ⟨trivial, ?_⟩; gi_at_call 11; refine (CallsIn.inRound l (callsIn_wide.2 (KW.out _ B2))).mono ?_; rintro e w3 ⟨rfl, hb3⟩; have X3 := ((X1.below hb2).below hb3).three; obtain ⟨y0, y1, y2, yf, yl⟩ := X3; have B3 := below_call B2 hb3; have v3 : Boxed w3 L _ (.slice va n vc) := (B3.block _ hv.lt).trans hv; have z0 : Boxed w3 w.heap.size _ (.slice none 0 0) := (B3.block _ a0.lt).trans a0; have z1 : Boxed w3 R1 _ .nilIface := (B3.block _ a1.lt).trans a1; have d0 := z0.cell; have d1 := z1.cell; have dv := v3.cell; have g0 := z0.frozen; have g1 := z1.frozen; have gv := v3.frozen; have de := hE.out w3 (hB.trans (B3.mono hB.size)))
            | (gi_at_builtin; refine wpListIn_append_own _ rfl _ _ 22 rfl (B + 3) 35 i0 (.agg #[.int .i64 0, .int .i64 0, .int .i64 0]) 3 24 Tryz.underlying22 hi hz0 hz1 hz2 rfl (by decide) _ _ _ rfl ((row_below HR.out B3).alloc _) ⟨w3.heap.size, 0, none⟩ 1 1 [.int .i64 op, .int .i64 a, .int .i64 b] rfl rfl (cells_three _ _ _ _ _) (by simp [Value.oneCell']) (by omega) (by omega) (by have := B3.size; have := HSZ.out; simp; omega) ?_; intro v' w5 hown' hgrow _; obtain ⟨g', cap', rfl⟩ := ownsRow_succ hown'; obtain ⟨hv1, hv2, hr2, hk2, hb2, ho2⟩ := row_put (m := w.heap.size) v3 (row_below HR.out B3) (by omega) q10 (by have := B3.size; have := HSZ.out; omega) hown' hgrow; have hc1 := hv1.cell; have hf1 := hv1.frozen))
          all_goals first
            | exact trivial
            | exact ⟨(keeps_below B3).trans hk2, ⟨Nat.le_trans B3.size hb2.size, fun b h1 h2 => (ho2 b (by omega) (by omega)).trans (B3.block b (by omega))⟩, ⟨⟨_, hv2, by rw [List.length_append, HN.out, pcC_app, HT.out]; exact hr2, fun x hx => (by
                rcases List.mem_append.1 hx with h | h
                · exact HG.out x h
                · rw [List.mem_singleton] at h; rw [h]; exact HGD.out), by rw [List.length_append, HN.out]; show n + 1 ≤ 40; omega⟩, (ho2 _ (by omega) (by omega)).trans z0, (ho2 _ (by omega) (by omega)).trans z1⟩, hB'.trans ((B3.mono (by omega)).trans hb2)⟩
      · have s1 : (wd.toList == q.toList) = false := by rw [beq_eq_false_iff_ne]; exact hsame
        have HGD : Hid (gdB q.data.toList = false) := Lib.hid (by
          unfold gdB
          rw [HT.out, HMY.out, Bool.true_and, decide_eq_false_iff_not, ← ew]
          intro e; exact hsame (e.trans (ByteArray.toList_eq q).symm))
        clear hsame ew
        gi_wp2_with (first
            | (refine ⟨trivial, ?_⟩; gi_at_call 26; refine (CallsIn.inRound l (callsIn_wide.2 KT.out)).mono ?_; rintro e w1 ⟨rfl, hb1⟩; have X1 := box_new w1 #[.int .i64 op, .int .i64 a, .int .i64 b] 35; have B1 : Below W.heap.size W (w1.alloc (.cells #[.int .i64 op, .int .i64 a, .int .i64 b] 35)) := hb1.alloc hb1.size _)
            | (refine ⟨trivial, ?_⟩; gi_at_call 15; refine (CallsIn.inRound l (callsIn_wide.2 (KM.out _))).mono ?_; rintro e w2 ⟨rfl, hb2⟩; have X2 := (X1.below hb2).three; obtain ⟨x0, x1, x2, xf, xl⟩ := X2; have B2 := below_call B1 hb2)
            | (refine ⟨trivial, ?_⟩; gi_at_call 11; refine (CallsIn.inRound l (callsIn_wide.2 (KW.out _ B2))).mono ?_; rintro e w3 ⟨rfl, hb3⟩; have X3 := ((X1.below hb2).below hb3).three; obtain ⟨y0, y1, y2, yf, yl⟩ := X3; have B3 := below_call B2 hb3; have v3 : Boxed w3 L _ (.slice va n vc) := (B3.block _ hv.lt).trans hv; have z0 : Boxed w3 w.heap.size _ (.slice none 0 0) := (B3.block _ a0.lt).trans a0; have z1 : Boxed w3 R1 _ .nilIface := (B3.block _ a1.lt).trans a1; have d0 := z0.cell; have d1 := z1.cell; have dv := v3.cell; have g0 := z0.frozen; have g1 := z1.frozen; have gv := v3.frozen; have de := hE.out w3 (hB.trans (B3.mono hB.size))))
        all_goals gi_wp2
        all_goals first | exact trivial | exact ⟨((keeps_below B3).trans (KeepsOthers.setCell _ _ _)).trans (KeepsOthers.setCell _ _ _), ⟨rfl, ⟨_, (z1.other (Ne.symm q5) _).set _, pre, ⟨q, hq⟩, rfl, HG.out, by rw [HN.out]; exact h40, .inl ⟨HGD.out, rfl⟩⟩, (z0.set _).other q5 _⟩, ((hB.trans (B3.mono hB.size)).setCell (p := ⟨w.heap.size, 0, none⟩) (Nat.le_refl _) _).setCell (p := ⟨R1, 0, none⟩) q9 _⟩
    · have hmy : myB ⟨op, a, b⟩ = false := by simpa using hmy
      rw [hmy] at KM
      have HG := Lib.hid hg
      have HGD : Hid (gdB q.data.toList = false) := Lib.hid (by unfold gdB; rw [HT.out, hmy, Bool.false_and])
      clear hmy hg ht hbd
      gi_wp2_with (first
            | (refine ⟨trivial, ?_⟩; gi_at_call 26; refine (CallsIn.inRound l (callsIn_wide.2 KT.out)).mono ?_; rintro e w1 ⟨rfl, hb1⟩; have X1 := box_new w1 #[.int .i64 op, .int .i64 a, .int .i64 b] 35; have B1 : Below W.heap.size W (w1.alloc (.cells #[.int .i64 op, .int .i64 a, .int .i64 b] 35)) := hb1.alloc hb1.size _)
            | (refine ⟨trivial, ?_⟩; gi_at_call 15; refine (CallsIn.inRound l (callsIn_wide.2 (KM.out _))).mono ?_; rintro e w2 ⟨rfl, hb2⟩; have X2 := (X1.below hb2).three; obtain ⟨x0, x1, x2, xf, xl⟩ := X2; have B2 := below_call B1 hb2; have z0 : Boxed w2 w.heap.size _ (.slice none 0 0) := (B2.block _ a0.lt).trans a0; have z1 : Boxed w2 R1 _ .nilIface := (B2.block _ a1.lt).trans a1; have d0 := z0.cell; have d1 := z1.cell; have g0 := z0.frozen; have g1 := z1.frozen))
      all_goals (refine ⟨trivial, ?_⟩)
      all_goals gi_wp2
      all_goals first | exact trivial | exact ⟨((keeps_below B2).trans (KeepsOthers.setCell _ _ _)).trans (KeepsOthers.setCell _ _ _), ⟨rfl, ⟨_, (z1.other (Ne.symm q5) _).set _, pre, ⟨q, hq⟩, rfl, HG.out, by rw [HN.out]; exact h40, .inl ⟨HGD.out, rfl⟩⟩, (z0.set _).other q5 _⟩, ((hB.trans (B2.mono hB.size)).setCell (p := ⟨w.heap.size, 0, none⟩) (Nat.le_refl _) _).setCell (p := ⟨R1, 0, none⟩) q9 _⟩
  case done =>
    rintro D ys W hD hS ⟨⟨⟨v, hv, hr, hg, h40⟩, a0, a1⟩, hB'⟩ hK
    have hB := hB0.trans hB'
    have hz : B + 3 ≤ W.heap.size := by rw [← hsz]; exact hB'.size
    have cv := hv.cell
    have c0 := a0.cell
    have c1 := a1.cell
    have f0 := a0.frozen
    have f1 := a1.frozen
    obtain ⟨A, c, rfl⟩ := row_form hr
    have hlen : (pcT ys).length = ys.length := by simp [pcT]
    have hpa : paF rgt (splS s.data.toList) [] = if rgt (pcT ys) = true then (pcT ys, 0) else ([], 3) := by
      have := pa_run (splS s.data.toList) [] [] (fun p hp => by rw [← hS] at hp; obtain ⟨x, hx, rfl⟩ := List.mem_map.1 hp; exact hg x hx) (by rw [← hS]; simpa [pcL] using h40)
      rw [List.append_nil] at this
      rw [this, List.nil_append, ← hS, ← pcT_map]
      rfl
    have hbd : ∀ t ∈ pcT ys, t.b ≤ 9223372036854775807 := fun t ht => by
      obtain ⟨x, _, rfl⟩ := List.mem_map.1 ht
      exact tm_le _
    obtain ⟨hTm, hcap⟩ := terms_row hr hlen hbd
    have KR := Lib.hid (fo_right A ys.length c _ W hTm)
    have er : rtB (fun i => (pcT ys).getD i ⟨0, 0, 0⟩) ys.length = rgt (pcT ys) := by unfold rgt; rw [hlen]
    rw [er] at KR
    have HR := Lib.hid hr
    have HPA := Lib.hid hpa
    have HBD := Lib.hid hbd
    have HLE := Lib.hid hlen
    have HK := Lib.hid hK
    have HC := Lib.hid hcap
    clear hpa hr hTm hbd hlen hg hS hcap hT hW
    cases hrg : rgt (pcT ys) with
    | false =>
      rw [hrg] at KR HPA
      gi_wp2_with (refine ⟨trivial, ?_⟩; gi_at_call 8; refine (callsIn_wide.2 KR.out).mono ?_; rintro e w1 ⟨rfl, hb1⟩; have z0 : Boxed w1 w.heap.size _ (.slice none 0 0) := (hb1.block _ a0.lt).trans a0; have z1 : Boxed w1 R1 _ .nilIface := (hb1.block _ a1.lt).trans a1; have d0 := z0.cell; have d1 := z1.cell; have g0 := z0.frozen; have g1 := z1.frozen; have dp := hP.out w1 (hB.trans (hb1.mono hB.size)))
      all_goals first | exact trivial | skip
      gi_region
      all_goals gi_wp2
      have kX := (((KeepsOthers.setCell w1 ⟨w.heap.size, 0, none⟩ (.slice none 0 0)).trans (KeepsOthers.setCell _ ⟨R1, 0, none⟩ (.iface tq pq))).trans (KeepsOthers.drew _)).same D _ ((hb1.block D (Array.getElem?_eq_some_iff.1 HK.out).1).trans HK.out) rfl
      have b0 : Boxed ((w1.setCell ⟨w.heap.size, 0, none⟩ (.slice none 0 0)).setCell ⟨R1, 0, none⟩ (.iface tq pq)).drew w.heap.size _ _ := (z0.set (.slice none 0 0)).other q5 (.iface tq pq)
      have b1 : Boxed ((w1.setCell ⟨w.heap.size, 0, none⟩ (.slice none 0 0)).setCell ⟨R1, 0, none⟩ (.iface tq pq)).drew R1 _ _ := (z1.other (Ne.symm q5) (.slice none 0 0)).set (.iface tq pq)
      have BX := (((hB.trans (hb1.mono hB.size)).setCell (p := ⟨w.heap.size, 0, none⟩) (Nat.le_refl _) (.slice none 0 0)).setCell (p := ⟨R1, 0, none⟩) q9 (.iface tq pq)).drew
      refine ⟨by simp, .inl ⟨_, _, rfl, run_takeDeferred kX, ?_⟩⟩
      have k0 := cell_kept b0.cell (grownBy_putObj' _ D (.deferred none)) (fun r e => by cases e; exact ⟨_, kX, rfl⟩)
      have k1 := cell_kept b1.cell (grownBy_putObj' _ D (.deferred none)) (fun r e => by cases e; exact ⟨_, kX, rfl⟩)
      have BD := BX.trans (belowK_b (w := w) (Nat.le_refl _) _ D _ (.deferred none) (by omega) kX rfl rfl)
      refine ⟨.tuple #[.slice none 0 0, .iface tq pq], by simp [results, Tryz.results13, go_sem, k0, k1], _, rfl, ?_, BD⟩
      exact .inr (.inr (.inr ⟨HPA.out, rfl⟩))
    | true =>
      rw [hrg] at KR HPA
      gi_wp2_with (refine ⟨trivial, ?_⟩; gi_at_call 8; refine (callsIn_wide.2 KR.out).mono ?_; rintro e w1 ⟨rfl, hb1⟩; have v1 : Boxed w1 L _ (.slice A ys.length c) := (hb1.block _ hv.lt).trans hv; have dv := v1.cell; have z0 : Boxed w1 w.heap.size _ (.slice none 0 0) := (hb1.block _ a0.lt).trans a0; have z1 : Boxed w1 R1 _ .nilIface := (hb1.block _ a1.lt).trans a1; have d0 := z0.cell; have d1 := z1.cell; have g0 := z0.frozen; have g1 := z1.frozen)
      all_goals first | exact trivial | skip
      have kX := ((KeepsOthers.setCell w1 ⟨w.heap.size, 0, none⟩ (.slice A ys.length c)).trans (KeepsOthers.setCell _ ⟨R1, 0, none⟩ .nilIface)).same D _ ((hb1.block D (Array.getElem?_eq_some_iff.1 HK.out).1).trans HK.out) rfl
      have b0 : Boxed ((w1.setCell ⟨w.heap.size, 0, none⟩ (.slice A ys.length c)).setCell ⟨R1, 0, none⟩ .nilIface) w.heap.size _ _ := (z0.set (.slice A ys.length c)).other q5 .nilIface
      have b1 : Boxed ((w1.setCell ⟨w.heap.size, 0, none⟩ (.slice A ys.length c)).setCell ⟨R1, 0, none⟩ .nilIface) R1 _ _ := (z1.other (Ne.symm q5) (.slice A ys.length c)).set .nilIface
      have BX := ((hB.trans (hb1.mono hB.size)).setCell (p := ⟨w.heap.size, 0, none⟩) (Nat.le_refl _) (.slice A ys.length c)).setCell (p := ⟨R1, 0, none⟩) q9 .nilIface
      refine ⟨by simp, .inl ⟨_, _, rfl, run_takeDeferred kX, ?_⟩⟩
      have k0 := cell_kept b0.cell (grownBy_putObj' _ D (.deferred none)) (fun r e => by cases e; exact ⟨_, kX, rfl⟩)
      have k1 := cell_kept b1.cell (grownBy_putObj' _ D (.deferred none)) (fun r e => by cases e; exact ⟨_, kX, rfl⟩)
      have BD := BX.trans (belowK_b (w := w) (Nat.le_refl _) _ D _ (.deferred none) (by omega) kX rfl rfl)
      refine ⟨.tuple #[.slice A ys.length c, .nilIface], by simp [results, Tryz.results13, go_sem, k0, k1], _, rfl, ?_, BD⟩
      have hT := terms_row (ownsRow_putObj (row_far (row_far (row_below HR.out hb1) (by omega) (u := .slice A ys.length c)) (by omega) (u := .nilIface)) (.deferred none) kX rfl) HLE.out HBD.out
      exact .inl ⟨pcT ys, A, c, HPA.out, by rw [HLE.out], HLE.out ▸ hT.1, HLE.out ▸ hT.2⟩
  case stop =>
    rintro D c pre W hD hS ⟨⟨rfl, ⟨ev, a1, ini, last, rfl, hg, h40, ho⟩, a0⟩, hB⟩ hK
    gi_wp2
    have kX := hK
    have b0 := a0
    have b1 := a1
    have BX := hB
    refine ⟨by simp, .inl ⟨_, _, rfl, run_takeDeferred kX, ?_⟩⟩
    have k0 := cell_kept b0.cell (grownBy_putObj' _ D (.deferred none)) (fun r e => by cases e; exact ⟨_, kX, rfl⟩)
    have k1 := cell_kept b1.cell (grownBy_putObj' _ D (.deferred none)) (fun r e => by cases e; exact ⟨_, kX, rfl⟩)
    have BD := BX.trans (belowK_b (w := w) (Nat.le_refl _) _ D _ (.deferred none) (by omega) kX rfl rfl)
    refine ⟨.tuple #[.slice none 0 0, ev], by simp [results, Tryz.results13, go_sem, k0, k1], _, rfl, ?_, BD⟩
    have hgood : ∀ p ∈ pcL ini, gdB p = true := fun p hp => by obtain ⟨x, hx, rfl⟩ := List.mem_map.1 hp; exact hg x hx
    rw [pcL_app] at hS
    obtain ⟨r, hr⟩ := hS
    have hrun := pa_run (pcL ini) [] (last.1.data.toList :: r) hgood (by simpa [pcL] using h40)
    rw [show pcL ini ++ last.1.data.toList :: r = splS s.data.toList by rw [← hr]; simp] at hrun
    rcases ho with ⟨hb, rfl⟩ | ⟨hb, hl, rfl⟩
    · exact .inr (.inl ⟨last.1, by rw [hrun, pa_bad hb], rfl⟩)
    · exact .inr (.inr (.inl ⟨by rw [hrun, pa_good hb, if_pos (by simpa [pcL] using hl)], rfl⟩))
end
end Go.Proofs.YtaccamlplikkfaaGreatDoor
