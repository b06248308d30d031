/- Contracts of package monitor: a step. -/
import Derived.Test.YtmemhlhjkpijpaaMonE
import Derived.Test.YtmemhlhjkpijpaaTail
import Derived.ArgAppend
namespace Go.Proofs.Ytmemhlhjkpijpaa
open Go.RowKit
set_option linter.unusedVariables false
set_option linter.unusedSimpArgs false
set_option maxRecDepth 100000
attribute [local go_sem] cell_set_ite Near.cell Near.frozen

def upF (f : Nat → Bool) (i : Nat) (v : Bool) : Nat → Bool := fun j => if j = i then v else f j
/-- What stands on the stack behind k parts, of a formula that is right. -/
def skF (ts : Nat → Tm) (ks : List Int) (o : Ou) : Nat → Nat → Bool
  | 0 => fun _ => false
  | k + 1 =>
    if ndN (ts k).op = 0 then upF (skF ts ks o k) (rdN ts k) (alB (ts k) o)
    else if ndN (ts k).op = 1 then upF (skF ts ks o k) (rdN ts k - 1) (unB (ts k) (skF ts ks o k (rdN ts k - 1)) (ks.getD k 0))
    else upF (skF ts ks o k) (rdN ts k - 2) (biB (ts k).op (skF ts ks o k (rdN ts k - 2)) (skF ts ks o k (rdN ts k - 1)) (ks.getD k 0))
/-- What is kept of part k. -/
def nxV (ts : Nat → Tm) (ks : List Int) (o : Ou) (k : Nat) : Int :=
  if ndN (ts k).op = 0 then 0
  else if ndN (ts k).op = 1 then unV (ts k) (skF ts ks o k (rdN ts k - 1)) (ks.getD k 0)
  else biV (ts k).op (skF ts ks o k (rdN ts k - 2)) (skF ts ks o k (rdN ts k - 1)) (ks.getD k 0)

theorem setCells_one (w : World) (b off : Nat) (v : Value) : w.setCells b off [v] = w.setCell ⟨b, off, none⟩ v := by
  first | rfl | simp [World.setCells]
/-- 'append' of one truth, where there is room. -/
theorem app_room {ops : Array Oper} {rest : List Oper} {o : Oper} {a : Act} {Q : Exit → Act → World → Prop} {w : World} (hgd : o.guard = none) (s x : Operand)
    (ho : o.op = .call { callee := .builtin .append, args := #[s, x], argTypes := #[40, 40] }) {g n cap : Nat} {F : Nat → Bool} (y : Bool)
    (hs : a.eval s = .slice (some ⟨g, 0, none⟩) n cap) (hx : a.eval x = .slice (some ⟨w.heap.size, 0, none⟩) 1 1) (hC : Col w g cap (fun i => .bool (F i))) (hn : n < cap) (hcap : cap ≤ 100000)
    (hK : wpList Try.prog ops Q rest (a.put o.dst (.slice (some ⟨g, 0, none⟩) (n + 1) cap)) ((w.alloc (.cells #[.bool y] 4)).setCell ⟨g, n, none⟩ (.bool y))) :
    wpList Try.prog ops Q (o :: rest) a (w.alloc (.cells #[.bool y] 4)) := by
  obtain ⟨i0, hi0, hz0, hz1, hz2⟩ := info_parts truth_info
  have hCA := hC.alloc (.cells #[.bool y] 4)
  refine wpList_append_arg _ hgd s x 40 ho 4 i0 (.bool false) 1 1 Try.underlying40 hi0 hz0 hz1 hz2 rfl (by decide) g 0 n cap ((List.range n).map (fun i => .bool (F i))) hs (by simp) ?_ ⟨w.heap.size, 0, none⟩ 1 1 [.bool y] hx rfl ?_ ?_ ?_ ?_ ?_ ?_ ?_
  · intro j u hj
    have hjn : j < n := by have := (List.getElem?_eq_some_iff.1 hj).1; simpa using this
    simp [hjn] at hj
    subst hj
    rw [Nat.zero_add]
    exact hCA.cell j (by omega)
  · intro j u hj
    match j, hj with
    | 0, hj => simp at hj; subst hj; simp [Addr.add]
  · intro u hu; simp at hu; subst hu; rfl
  · intro _ j hj
    have : j = 0 := by simpa using hj
    subst this
    refine ⟨?_, hCA.frz _⟩
    rw [show 0 + n * 1 + 0 = n by omega, hCA.cell n hn]; rfl
  · unfold maxLen; omega
  · omega
  · intro _
    rw [setCells_one, show 0 + n * 1 = n by omega]
    exact hK
  · intro h; omega
end Go.Proofs.Ytmemhlhjkpijpaa
