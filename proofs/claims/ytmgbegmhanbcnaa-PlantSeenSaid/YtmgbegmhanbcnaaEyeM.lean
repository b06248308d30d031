/- Contracts of package eye: the four parts of a tick. -/
import Derived.Test.YtmgbegmhanbcnaaAmb
import Derived.Test.YtmgbegmhanbcnaaComp
import Derived.Test.YtmgbegmhanbcnaaDeb
import Derived.Test.YtmgbegmhanbcnaaRef
import Derived.Test.YtmgbegmhanbcnaaBeamC
import Derived.Test.YtmgbegmhanbcnaaRailsC
import Derived.BigRegion
import Derived.Deep.RegionLaw
import Derived.OwnWalk
import Derived.Laws.OwnMore
namespace Go.Proofs.Ytmgbegmhanbcnaa
set_option maxRecDepth 100000
open Go.RowKit
set_option linter.unusedVariables false
set_option linter.unusedSimpArgs false

/-- But for new blocks, block g alone has turned. -/
def Only (g : Nat) (w w' : World) : Prop := w.grownBy w' (some g)
theorem Only.refl (g : Nat) (w : World) : Only g w w := World.grownBy.refl w _
theorem Only.below {g : Nat} {w x y : World} (h : Only g w x) (hb : Below x.heap.size x y) : Only g w y :=
  ⟨hb.os.trans h.os, hb.tape.trans h.tape, hb.output.trans h.output, Nat.le_trans h.size hb.size, fun k hk hne => (hb.block k (Nat.lt_of_lt_of_le hk h.size)).trans (h.block k hk hne)⟩
theorem Only.set {g : Nat} {w x : World} (h : Only g w x) (i : Nat) (v : Value) : Only g w (x.setCell ⟨g, i, none⟩ v) :=
  ⟨h.os, h.tape, h.output, by rw [size_setCell]; exact h.size, fun k hk hne => (heap_setCell_other x ⟨g, i, none⟩ k v (fun e => hne (by rw [e]))).trans (h.block k hk hne)⟩
theorem Only.drew {g : Nat} {w x : World} (h : Only g w x) : Only g w x.drew := h.below (below_drewN (Below.refl _ _) 1)
theorem Only.alloc {g : Nat} {w x : World} (h : Only g w x) (o : Obj) : Only g w (x.alloc o) := h.below (below_alloc_on (Below.refl _ _) o)
theorem Box.only {w w' : World} {g h : Nat} {cs : Array Value} (hB : Box w h cs) (ho : Only g w w') (hne : h ≠ g) : Box w' h cs := by
  have hk := ho.block h hB.1 (fun e => hne (by injection e))
  exact ⟨Nat.lt_of_lt_of_le hB.1 ho.size, fun i => (World.cell?_of_block (a := ⟨h, i, none⟩) hk).trans (hB.2.1 i), fun i => (World.frozen?_of_block (a := ⟨h, i, none⟩) hk).trans (hB.2.2 i)⟩
theorem below_only {W w w' : World} {g : Nat} (hA : Below W.heap.size W w) (ho : Only g w w') (hg : W.heap.size ≤ g) : Below W.heap.size W w' :=
  ⟨ho.os.trans hA.os, ho.tape.trans hA.tape, ho.output.trans hA.output, Nat.le_trans hA.size ho.size, fun k hk => (ho.block k (Nat.lt_of_lt_of_le hk hA.size) (fun e => by injection e; omega)).trans (hA.block k hk)⟩
theorem Box.eight8 {w : World} {g : Nat} {v0 v1 v2 v3 v4 v5 v6 v7 : Value} (h : Box w g #[v0, v1, v2, v3, v4, v5, v6, v7]) :
    w.cell? ⟨g, 0, none⟩ = some v0 ∧ w.cell? ⟨g, 1, none⟩ = some v1 ∧ w.cell? ⟨g, 2, none⟩ = some v2 ∧ w.cell? ⟨g, 3, none⟩ = some v3 ∧ w.cell? ⟨g, 4, none⟩ = some v4 ∧ w.cell? ⟨g, 5, none⟩ = some v5 ∧ w.cell? ⟨g, 6, none⟩ = some v6 ∧ w.cell? ⟨g, 7, none⟩ = some v7 ∧ (∀ i, w.frozen? ⟨g, i, none⟩ = false) ∧ g < w.heap.size :=
  ⟨h.2.1 0, h.2.1 1, h.2.1 2, h.2.1 3, h.2.1 4, h.2.1 5, h.2.1 6, h.2.1 7, h.2.2, h.1⟩
theorem Box.twelve {w : World} {g : Nat} {v0 v1 v2 v3 v4 v5 v6 v7 v8 v9 v10 v11 : Value} (h : Box w g #[v0, v1, v2, v3, v4, v5, v6, v7, v8, v9, v10, v11]) :
    w.cell? ⟨g, 0, none⟩ = some v0 ∧ w.cell? ⟨g, 1, none⟩ = some v1 ∧ w.cell? ⟨g, 2, none⟩ = some v2 ∧ w.cell? ⟨g, 3, none⟩ = some v3 ∧ w.cell? ⟨g, 4, none⟩ = some v4 ∧ w.cell? ⟨g, 5, none⟩ = some v5 ∧ w.cell? ⟨g, 6, none⟩ = some v6 ∧ w.cell? ⟨g, 7, none⟩ = some v7 ∧ w.cell? ⟨g, 8, none⟩ = some v8 ∧ w.cell? ⟨g, 9, none⟩ = some v9 ∧ w.cell? ⟨g, 10, none⟩ = some v10 ∧ w.cell? ⟨g, 11, none⟩ = some v11 ∧ (∀ i, w.frozen? ⟨g, i, none⟩ = false) ∧ g < w.heap.size :=
  ⟨h.2.1 0, h.2.1 1, h.2.1 2, h.2.1 3, h.2.1 4, h.2.1 5, h.2.1 6, h.2.1 7, h.2.1 8, h.2.1 9, h.2.1 10, h.2.1 11, h.2.2, h.1⟩

/-- The base ahead of a tick; whether it is shaded; the base behind it. -/
def eyB (bg : Bool) (ba a : Int) : Int := if bg = true then ba else 64 * lgV a
def eyS (bg : Bool) (ba a : Int) (sh : Bool) : Bool := shdB (cbV (eyB bg ba a) / 64) a sh
def eyN (b a : Int) (s : Bool) : Int := if s = true then cbV b else amS b a
theorem am_any (b a : Int) (s : Bool) (w : World) : Calls Try.prog 34 #[.int .i64 b, .int .i64 a, .bool s] w fun e w' => e = .returned (.int .i64 (eyN b a s)) ∧ Below w.heap.size w w' := by
  cases s
  · exact am_step_no b a w w (At.refl w)
  · exact am_step_sh b a w w (At.refl w)

attribute [local go_sem] cell_set_ite Near.cell Near.frozen

end Go.Proofs.Ytmgbegmhanbcnaa
