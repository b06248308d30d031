/- A region that draws its order and whose callees make new memory (and turn nothing old): one walk, in the text's order: the kit's own theorem at the class of the worlds in which nothing old has turned. And 'append' as a step of a region that draws. -/
import Derived.Test.YtjhdlcemeemlhaaAt
import Derived.BigQuiet
import Derived.Deep.RegionLaw
import Derived.Laws.AppendOwn
import Derived.ProofKit
namespace Go.Proofs.Ytjhdlcemeemlhaa
set_option maxRecDepth 100000
open Go.RowKit
set_option linter.unusedVariables false
set_option linter.unusedSimpArgs false

/-- A world in which nothing of w has turned. -/
structure Near (w : World) where
  at_ : World
  below : Below w.heap.size w at_
instance (w : World) : Nonempty (Near w) := ⟨⟨w, Below.refl _ _⟩⟩
theorem Near.size {w : World} (u : Near w) : w.heap.size ≤ u.at_.heap.size := u.below.size
theorem Near.cell {w : World} (u : Near w) {p : Addr} (h : p.block < w.heap.size) : u.at_.cell? p = w.cell? p := u.below.cell h
theorem Near.on {w w' : World} (u : Near w) (h : Below u.at_.heap.size u.at_ w') : ∃ v : Near w, w' = v.at_ := ⟨⟨w', Below.trans u.below (h.mono u.below.size)⟩, rfl⟩
theorem Near.drews {w : World} (u : Near w) (n : Nat) : ∃ v : Near w, u.at_.drewN n = v.at_ := u.on (below_drewN (Below.refl _ _) n)

theorem wp_region_calm {id : Nat} {Q : Exit → Act → World → Prop} {a : Act} {w : World} {l : List Oper} (hm : Try.prog.follows .mixedOrders = true) (hB : Region.lexB .any l.toArray = true)
    (h : wpQuiet Try.prog l.toArray (fun x => ∃ u : Near w, x = u.at_) (fun a' => ∀ w', (∃ u : Near w, w' = u.at_) → Q .normal a' w') l a) : (Code.region id l.toArray true).wp Try.prog Q a w :=
  wp_region_quiet (C := fun x => ∃ u : Near w, x = u.at_) hm hB ⟨⟨{ w with drawn := w.drawn + 1 }, (below_drewN (Below.refl _ _) 1)⟩, rfl⟩ (by simpa using h)

/-- A callee that makes memory, met in such a world. -/
theorem calm_of {f : FuncId} {args : Array Value} {w : World} {v : Value} (u : Near w) (h : Calls Try.prog f args u.at_ fun e w' => e = .returned v ∧ Below u.at_.heap.size u.at_ w') :
    Calls Try.prog f args u.at_ fun e w' => e = .returned v ∧ ∃ x : Near w, w' = x.at_ := h.mono fun _ _ ⟨he, hb⟩ => ⟨he, u.on hb⟩
/-- One that draws at most. -/
theorem calm_drew {f : FuncId} {args : Array Value} {w : World} {v : Value} (u : Near w) (h : Calls Try.prog f args u.at_ fun e w' => e = .returned v ∧ ∃ n, w' = u.at_.drewN n) :
    Calls Try.prog f args u.at_ fun e w' => e = .returned v ∧ ∃ x : Near w, w' = x.at_ := h.mono fun _ _ ⟨he, n, hn⟩ => ⟨he, hn ▸ u.drews n⟩
theorem calm_same {f : FuncId} {args : Array Value} {w : World} {v : Value} (u : Near w) (h : Calls Try.prog f args u.at_ fun e w' => e = .returned v ∧ u.at_ = w') :
    Calls Try.prog f args u.at_ fun e w' => e = .returned v ∧ ∃ x : Near w, w' = x.at_ := h.mono fun _ _ ⟨he, hn⟩ => ⟨he, u, hn.symm⟩

/-- 'append' of one value, as a step of a region that draws. -/
theorem step_app_one {ops : Array Oper} {o : Oper} {a : Act} {w : World} {K : Act → World → Prop} {Q : Exit → Act → World → Prop} {E0 : Prop}
    (hg : o.guard = none) (s x : Operand) (t : TypeId) (ho : o.op = .call { callee := .builtin .append, args := #[s, x], argTypes := #[t, t] })
    (e : TypeId) (z : Value) (bytes : Nat) (ht : Try.prog.underlying t = some (.slice e)) (hinfo : (Try.prog.info? e).map (fun i => (i.zero, i.size, i.bytes)) = some (some z, 1, bytes)) (hz1 : z.cells.size = 1)
    {base n : Nat} {cs : List Value} {v : Value} (y : Value) (hy : y.oneCell' = true)
    (hs : a.eval s = v) (hx : a.eval x = .slice (some ⟨w.heap.size, 0, none⟩) 1 1) (hown : w.ownsRow base e 1 v n cs) (hb : base ≤ w.heap.size) (hn : n < 9223372036854775807) (hn2 : (n + 1) * bytes ≤ 140737488355328)
    (hK : ∀ v' w', w'.ownsRow base e 1 v' (n + 1) (cs ++ [y]) → (w.alloc (.cells #[y] e)).grownBy w' v.ownBlock → K (a.put o.dst v') w') :
    if Region.wanted o (yielded ops a.tmps) = true then Oper.wp Try.prog o a (w.alloc (.cells #[y] e)) K Q else E0 := by
  have hw : Region.wanted o (yielded ops a.tmps) = true := by simp [Region.wanted, hg]
  rw [if_pos hw]
  obtain ⟨i0, hi0, hz0, hz2, hz3⟩ := info_parts hinfo
  refine wp_append_own _ s x t ho base e i0 z 1 bytes ht hi0 hz0 hz2 hz3 hz1 (by decide) v n cs hs (hown.alloc _) ⟨w.heap.size, 0, none⟩ 1 1 [y] hx rfl ?_ ?_ ?_ hn2 ?_ (fun v' w' h1 h2 _ => hK v' w' h1 h2)
  · intro j u hj
    match j, hj with
    | 0, hj => simp at hj; subst hj; simp [Addr.add]
  · intro u hu; simp at hu; subst hu; exact hy
  · unfold maxLen; omega
  · simp; omega
end Go.Proofs.Ytjhdlcemeemlhaa
