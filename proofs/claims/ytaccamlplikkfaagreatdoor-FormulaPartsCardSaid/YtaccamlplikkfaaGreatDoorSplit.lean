/- strings.SplitSeq at a blank: the iterator's contract. -/
import Derived.Test.YtaccamlplikkfaaGreatDoorRf
import Derived.Test.YtaccamlplikkfaaGreatDoorTerm
import Derived.Lib.IndexLaws
namespace Go.Proofs.YtaccamlplikkfaaGreatDoor
open Go.RowKit Go.Shelf
set_option linter.unusedVariables false
set_option linter.unusedSimpArgs false
set_option maxRecDepth 100000

theorem spl_at {l : List UInt8} {i : Nat} (h : Lib.indexByte l 32 = (i : Int)) : splS l = l.take i :: splS (l.drop (i + 1)) := by
  obtain ⟨h1, h2⟩ := Lib.indexByte_some h
  have e : l = l.take i ++ 32 :: l.drop (i + 1) := by
    have hi := (List.getElem?_eq_some_iff.1 h1).1
    have h3 := (List.getElem?_eq_some_iff.1 h1).2
    rw [← h3, ← List.drop_eq_getElem_cons hi, List.take_append_drop]
  have e2 : splS l = splS (l.take i ++ 32 :: l.drop (i + 1)) := congrArg splS e
  rw [e2, spl_app _ (fun c hc e3 => ?_)]
  obtain ⟨k, hk, hg⟩ := List.getElem_of_mem hc
  rw [List.length_take] at hk
  have h4 := h2 k (by omega)
  apply h4
  rw [List.getElem?_eq_getElem (by omega)]
  rw [List.getElem_take] at hg
  rw [hg, e3]
theorem spl_no {l : List UInt8} (h : Lib.indexByte l 32 = -1) : splS l = [l] := by
  refine spl_none l fun c hc e => ?_
  obtain ⟨k, hk, hg⟩ := List.getElem_of_mem hc
  apply Lib.indexByte_none h k
  rw [List.getElem?_eq_getElem hk, hg, e]

/-- A piece of a text. -/
abbrev Piece := { x : ByteArray // x.size ≤ 1000 }
def pcL (l : List Piece) : List (List UInt8) := l.map fun x => x.1.data.toList
theorem pcL_app (l : List Piece) (x : Piece) : pcL (l ++ [x]) = pcL l ++ [x.1.data.toList] := by simp [pcL]
/-- The three cells that the iterator has captured: the rest, the blank, how much of it is kept. -/
def Three (B : Nat) (w : World) (r : ByteArray) : Prop := Boxed w B 9 (.string r) ∧ Boxed w (B + 1) 9 (.string ⟨#[32]⟩) ∧ Boxed w (B + 2) 3 (.int .i64 0)
def Kp3 (B : Nat) (A A' : World) : Prop := A.heap.size ≤ A'.heap.size ∧ ∀ b, B ≤ b → b < B + 3 → A'.heap[b]? = A.heap[b]?
theorem Three.kp {B : Nat} {A A' : World} {r : ByteArray} (h : Three B A r) (k : Kp3 B A A') : Three B A' r :=
  ⟨(k.2 B (by omega) (by omega)).trans h.1, (k.2 (B + 1) (by omega) (by omega)).trans h.2.1, (k.2 (B + 2) (by omega) (by omega)).trans h.2.2⟩
theorem Three.set {B : Nat} {A : World} {r : ByteArray} (h : Three B A r) (q : ByteArray) : Three B (A.setCell ⟨B, 0, none⟩ (.string q)) q :=
  ⟨h.1.set _, (h.2.1).other (by omega) _, (h.2.2).other (by omega) _⟩
def StB (B : Nat) (A A' : World) : Prop := ∃ q, A' = A.setCell ⟨B, 0, none⟩ (.string q)
def leftS (B : Nat) (w : World) : Nat := match w.cell? ⟨B, 0, none⟩ with
  | some (.string r) => r.size
  | _ => 0
theorem leftS_is {B : Nat} {w : World} {r : ByteArray} (h : Three B w r) : leftS B w = r.size := by
  unfold leftS; rw [h.1.cell]

theorem fo_index (r : ByteArray) (w : World) : Calls Tryz.prog 49 #[.string r, .string ⟨#[32]⟩] w fun e w' => e = .returned (.int .i64 (Lib.indexByte r.data.toList 32)) ∧ w' = w := by
  have K := Lib.hid (Any.stringslite_Index_one hrl219 r 32 w)
  go_enter Tryz.func49, Tryz.ntmps49
  go_wp2_with (go_at_call 60; refine K.out.mono ?_; rintro e w' ⟨rfl, rfl⟩)
  all_goals go_ret
  all_goals exact ⟨rfl, rfl⟩

section
attribute [local go_sem] Oper.semAt_some
set_option maxHeartbeats 2000000 in
theorem fo_split1 (n : Nat) (hn : 1 ≤ n) (l B : Nat) (s0 : ByteArray) (J Jx : List Piece → World → Prop)
    (hJ : ∀ s A A', J s A → StB B A A' → J s A')
    (hY : ∀ pre x W, J pre W → pre.length < (splS s0.data.toList).length → YieldAt Fence.wide (n - 1) Tryz.prog l #[.string x.1] W fun e W' =>
      (e = .returned (.bool true) ∧ J (pre ++ [x]) W' ∧ Kp3 B W W') ∨ (e = .returned (.bool false) ∧ Jx (pre ++ [x]) W'))
    (W : World) (hs : s0.size ≤ 1000) (h3 : Three B W s0) (h0 : J [] W) :
    CallsIn Fence.wide n Tryz.prog 47 #[.func (.yield l) #[] #[], .pointer (some ⟨B + 1, 0, none⟩), .pointer (some ⟨B, 0, none⟩), .pointer (some ⟨B + 2, 0, none⟩)] W fun e W' => (∃ v, e = .returned v) ∧
      ((∃ xs, pcL xs = splS s0.data.toList ∧ J xs W') ∨ (∃ pre, pcL pre <+: splS s0.data.toList ∧ Jx pre W')) := by
  refine callsIn_of_wp Tryz.func47 rfl trivial ?_ rfl
  simp only [Tryz.ntmps47, List.size_toArray, List.length_cons, List.length_nil, Nat.reduceAdd, Nat.reduceSub, Array.replicate_succ, Array.replicate_zero, List.push_toArray, List.append_toArray, List.nil_append, List.cons_append]
  have c1 := h3.2.1.cell
  gi_wp2
  clear c1
  gi_loopw [7, 8] (fun i f wr => ∃ (pre : List Piece) (r : ByteArray), Three B wr r ∧ pcL pre ++ splS r.data.toList = splS s0.data.toList ∧ r.size ≤ 1000 ∧ J pre wr)
    (fun _ _ wr => leftS B wr)
  case atStart => exact ⟨[], s0, h3, rfl, hs, h0⟩
  case round =>
    obtain ⟨pre, r, hT, hpr, hr, hJs⟩ := hrel
    have c0 := hT.1.cell
    have c1 := hT.2.1.cell
    have c2 := hT.2.2.cell
    have f0 := hT.1.frozen
    have HI := Lib.hid (fun w => fo_index r w)
    have hg := Lib.indexByte_ge r.data.toList 32
    by_cases hno : Lib.indexByte r.data.toList 32 = -1
    · obtain ⟨fn, tmps, assign, body, hy, hR⟩ := hY pre ⟨r, hr⟩ wr hJs (by have := congrArg List.length hpr; rw [spl_no hno] at this; simp [pcL] at this; omega)
      have HP := Lib.hid hpr
      have HN := Lib.hid hno
      rw [hno] at HI
      clear hpr hno hg
      gi_wp2_with (refine ⟨trivial, ?_⟩; gi_at_call 49; refine (callsIn_wide.2 (HI.out _)).mono ?_; rintro e w' ⟨rfl, rfl⟩)
      have HJ := Lib.hid hJ
      clear hJ hY
      refine hR.mono ?_
      rintro e W3 (⟨rfl, hJ3, hk3⟩ | ⟨rfl, hJx3⟩)
      · gi_wp2
        go_end0
        exact ⟨⟨_, rfl⟩, .inl ⟨_, by rw [pcL_app, ← HP.out, spl_no HN.out], hJ3⟩⟩
      · gi_wp2
        go_end0
        exact ⟨⟨_, rfl⟩, .inr ⟨_, by rw [pcL_app, ← HP.out, spl_no HN.out]; exact List.prefix_refl _, hJx3⟩⟩
    · obtain ⟨i, hi⟩ : ∃ i : Nat, Lib.indexByte r.data.toList 32 = (i : Int) := ⟨(Lib.indexByte r.data.toList 32).toNat, by omega⟩
      have hlt : i < r.size := (List.getElem?_eq_some_iff.1 (Lib.indexByte_some hi).1).1
      have hx : (r.extract 0 i).size ≤ 1000 := by rw [ByteArray.size_extract]; omega
      have hq : (r.extract (i + 1) r.size).size ≤ 1000 := by rw [ByteArray.size_extract]; omega
      have ef : (r.extract 0 i).data.toList = r.data.toList.take i := by
        rw [ByteArray.data_extract, Array.toList_extract]; simp [List.extract]
      have eq_ : (r.extract (i + 1) r.size).data.toList = r.data.toList.drop (i + 1) := by
        rw [ByteArray.data_extract, Array.toList_extract]
        show (r.data.toList.drop (i + 1)).take (r.size - (i + 1)) = _
        rw [List.take_of_length_le (by rw [List.length_drop]; exact Nat.le_refl _)]
      have hsp := spl_at hi
      obtain ⟨fn, tmps, assign, body, hy, hR⟩ := hY pre ⟨r.extract 0 i, hx⟩ wr hJs (by have := congrArg List.length hpr; rw [hsp] at this; simp [pcL] at this; omega)
      have HP := Lib.hid (show pcL pre ++ (r.data.toList.take i :: splS (r.data.toList.drop (i + 1))) = splS s0.data.toList by rw [← hsp]; exact hpr)
      have HL := Lib.hid (show r.size - (i + 1) < r.size by omega)
      have HE := Lib.hid ef
      have HQ := Lib.hid eq_
      have HX := Lib.hid hq
      have HJ := Lib.hid hJ
      rw [hi] at HI
      clear hpr hno hg hsp hJ hY ef eq_ hq
      have a1 : IntKind.i64.wrap ((i : Int) + 0) = i := by rw [Int.add_zero]; rw [IntKind.wrap_i64]; omega
      have a2 : IntKind.i64.wrap ((i : Int) + 1) = ((i + 1 : Nat) : Int) := by rw [IntKind.wrap_i64]; omega
      have a3 : decide ((i : Int) < 0) = false := decide_eq_false (by omega)
      gi_wp2_with (refine ⟨trivial, ?_⟩; gi_at_call 49; refine (callsIn_wide.2 (HI.out _)).mono ?_; rintro e w' ⟨rfl, rfl⟩)
      refine hR.mono ?_
      rintro e W3 (⟨rfl, hJ3, hk3⟩ | ⟨rfl, hJx3⟩)
      · have hT3 := hT.kp hk3
        have d0 := hT3.1.cell
        have d1 := hT3.2.1.cell
        have g0 := hT3.1.frozen
        gi_wp2
        go_roundw
        case rel => exact ⟨_, _, hT3.set _, by rw [pcL_app, HQ.out, ← HP.out, HE.out]; simp, HX.out, HJ.out _ _ _ hJ3 ⟨_, rfl⟩⟩
        case measure =>
          rw [leftS_is (hT3.set _), leftS_is hT, ByteArray.size_extract]
          have := HL.out
          omega
      · gi_wp2
        refine bodyPost_ret (results_none rfl _ _ _) rfl ?_
        exact ⟨⟨_, rfl⟩, .inr ⟨_, by rw [pcL_app, ← HP.out, HE.out]; exact ⟨_, by simp; rfl⟩, hJx3⟩⟩
end
/-- strings.SplitSeq(s, " "): its pieces, one by one. -/
theorem fo_splitS (s : ByteArray) (w : World) : Calls Tryz.prog 33 #[.string s, .string ⟨#[32]⟩, .int .i64 0] w fun e w' => e = .returned (.func (.func 47) #[] #[.pointer (some ⟨w.heap.size + 1, 0, none⟩), .pointer (some ⟨w.heap.size, 0, none⟩), .pointer (some ⟨w.heap.size + 2, 0, none⟩)]) ∧
    w' = ((w.alloc (.cells #[.string s] 9)).alloc (.cells #[.string ⟨#[32]⟩] 9)).alloc (.cells #[.int .i64 0] 3) := by
  go_enter Tryz.func33, Tryz.ntmps33
  go_wp2
  all_goals go_ret
  all_goals exact ⟨rfl, rfl⟩
theorem fo_splitSeq (s : ByteArray) (w : World) : Calls Tryz.prog 25 #[.string s, .string ⟨#[32]⟩] w fun e w' => e = .returned (.func (.func 47) #[] #[.pointer (some ⟨w.heap.size + 1, 0, none⟩), .pointer (some ⟨w.heap.size, 0, none⟩), .pointer (some ⟨w.heap.size + 2, 0, none⟩)]) ∧
    w' = ((w.alloc (.cells #[.string s] 9)).alloc (.cells #[.string ⟨#[32]⟩] 9)).alloc (.cells #[.int .i64 0] 3) := by
  go_enter Tryz.func25, Tryz.ntmps25
  go_wp2_with (go_at_call 33; refine (fo_splitS _ _).mono ?_; rintro e w' ⟨rfl, rfl⟩)
  all_goals go_ret
  all_goals exact ⟨rfl, rfl⟩
theorem fo_splits (n : Nat) (hn : 1 ≤ n) (B : Nat) (s : ByteArray) (hs : s.size ≤ 1000) (w : World) (h : Three B w s) :
    ItSt Fence.wide n Tryz.prog 47 #[.pointer (some ⟨B + 1, 0, none⟩), .pointer (some ⟨B, 0, none⟩), .pointer (some ⟨B + 2, 0, none⟩)] (fun x : Piece => #[Value.string x.1]) (Kp3 B) (StB B)
      (fun xs => pcL xs = splS s.data.toList) (fun pre => pcL pre <+: splS s.data.toList) (splS s.data.toList).length w := fun l J Jx W hW hJ _ hY h0 => by
  have h2 : Three B W s := by
    obtain ⟨a, b, c⟩ := h
    exact ⟨(hW.block _ a.lt).trans a, (hW.block _ b.lt).trans b, (hW.block _ c.lt).trans c⟩
  exact fo_split1 n hn l B s J Jx hJ hY W hs h2 h0
end Go.Proofs.YtaccamlplikkfaaGreatDoor
