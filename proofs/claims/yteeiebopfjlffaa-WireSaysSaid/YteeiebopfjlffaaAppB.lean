/- 'append(b, x)' and 'append(b, s...)' to a []byte that is the call's own: rules without side goals but two bounds. -/
import Derived.Test.YteeiebopfjlffaaBytes
import Derived.Lib.AppendStr
namespace Go.Proofs.Yteeiebopfjlffaa
set_option maxRecDepth 100000
open Go.RowKit
set_option linter.unusedVariables false
set_option linter.unusedSimpArgs false

theorem app_byte {ops : Array Oper} {rest : List Oper} {o : Oper} {a : Act} {Q : Exit → Act → World → Prop} {w : World} (hgd : o.guard = none) (s x : Operand)
    (ho : o.op = .call { callee := .builtin .append, args := #[s, x], argTypes := #[37, 37] }) {base n : Nat} {cs : List Value} {v : Value} (y : Int)
    (hs : a.eval s = v) (hx : a.eval x = .slice (some ⟨w.heap.size, 0, none⟩) 1 1) (hown : w.ownsRow base 5 1 v n cs) (hb : base ≤ w.heap.size) (hn : n ≤ 140737488355320)
    (hK : ∀ v' w', w'.ownsRow base 5 1 v' (n + 1) (cs ++ [.int .u8 y]) → (w.alloc (.cells #[.int .u8 y] 5)).grownBy w' v.ownBlock → wpList Try.prog ops Q rest (a.put o.dst v') w') :
    wpList Try.prog ops Q (o :: rest) a (w.alloc (.cells #[.int .u8 y] 5)) := by
  obtain ⟨i0, hi0, hz0, hz1, hz2⟩ := info_parts byte_info
  refine wpList_append_own _ hgd s x 37 ho base 5 i0 (.int .u8 0) 1 1 Try.underlying37 hi0 hz0 hz1 hz2 rfl (by decide) v n cs hs (hown.alloc _) ⟨w.heap.size, 0, none⟩ 1 1 [.int .u8 y] hx rfl ?_ ?_ ?_ ?_ ?_ (fun v' w' h1 h2 _ => hK v' w' h1 h2)
  · intro j u hj
    match j, hj with
    | 0, hj => simp at hj; subst hj; simp [Addr.add]
  · intro u hu; simp at hu; subst hu; rfl
  · unfold maxLen; omega
  · omega
  · simp; omega

theorem app_text {ops : Array Oper} {rest : List Oper} {o : Oper} {a : Act} {Q : Exit → Act → World → Prop} {w : World} (hgd : o.guard = none) (s x : Operand)
    (ho : o.op = .call { callee := .builtin .append, args := #[s, x], argTypes := #[37, 9] }) {base n : Nat} {cs : List Value} {v : Value} (t : ByteArray)
    (hs : a.eval s = v) (hx : a.eval x = .string t) (hown : w.ownsRow base 5 1 v n cs) (hb : base ≤ w.heap.size) (hn : n + t.size ≤ 140737488355320)
    (hK : ∀ v' w', w'.ownsRow base 5 1 v' (n + t.size) (cs ++ t.data.toList.map byteV) → w.grownBy w' v.ownBlock → wpList Try.prog ops Q rest (a.put o.dst v') w') :
    wpList Try.prog ops Q (o :: rest) a w := by
  obtain ⟨i0, hi0, hz0, hz1, hz2⟩ := info_parts byte_info
  exact Lib.wpList_append_own_string _ hgd s x 37 9 ho base 5 i0 Try.underlying37 Try.underlying9 hi0 hz0 hz1 hz2 v n cs hs hown t hx (by unfold maxLen; omega) (by omega) hb (fun v' w' h1 h2 _ => hK v' w' h1 h2)

theorem GrownB.more {w wr w1 : World} {ys : List UInt8} {v v' : Value} {t : ByteArray} (h : GrownB w ys v wr)
    (ho : w1.ownsRow w.heap.size 5 1 v' (ys.length + t.size) (ys.map byteV ++ t.data.toList.map byteV)) (hg : wr.grownBy w1 v.ownBlock) : GrownB w (ys ++ t.data.toList) v' w1 := by
  obtain ⟨_, hown, hb⟩ := h
  have e : (ys ++ t.data.toList).length = ys.length + t.size := by rw [List.length_append, Array.length_toList]; rfl
  refine ⟨by rw [e]; exact own_formB ho, by rw [e, List.map_append]; exact ho, hb.grown hg hb.size (fun g hg => by have := (hown.lt g hg).1; omega)⟩
theorem GrownB.below {w wr w1 : World} {ys : List UInt8} {v : Value} (h : GrownB w ys v wr) (hb : Below wr.heap.size wr w1) : GrownB w ys v w1 := by
  refine ⟨h.1, ?_, Below.trans h.2.2 (hb.mono h.2.2.size)⟩
  refine ⟨h.2.1.1, ?_⟩
  rcases h.2.1.2 with h2 | ⟨g, cap, cur, hv, hg, hh, r⟩
  · exact .inl h2
  · exact .inr ⟨g, cap, cur, hv, hg, by rw [hb.block g (Array.getElem?_eq_some_iff.1 hh).1]; exact hh, r⟩
theorem GrownB.read {w wr : World} {ys : List UInt8} {B : Option Addr} {n d : Nat} (h : GrownB w ys (.slice B n d) wr) : (convert 37 9 (.slice B n d)).run Try.prog wr = .ok (.string ⟨ys.toArray⟩) wr :=
  h.text ⟨wr, Below.refl _ _⟩
end Go.Proofs.Yteeiebopfjlffaa
