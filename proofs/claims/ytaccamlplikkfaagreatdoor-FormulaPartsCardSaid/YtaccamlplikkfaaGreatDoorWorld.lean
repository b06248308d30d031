/- A deep world is forgotten; a fact is laid. -/
import Derived.Test.YtaccamlplikkfaaGreatDoorBox
namespace Go.Proofs.YtaccamlplikkfaaGreatDoor
set_option maxRecDepth 100000
open Go.RowKit
set_option linter.unusedVariables false
set_option linter.unusedSimpArgs false
theorem at_world {c : Code} {P : Program} {Q : Exit → Act → World → Prop} {a : Act} {w : World} (C : World → Prop) (h : C w) (k : ∀ W', C W' → c.wp P Q a W') : c.wp P Q a w := k w h
theorem box_cast {w : World} {g : Nat} {cs cs' : Array Value} (h : Box w g cs) (e : cs = cs') : Box w g cs' := e ▸ h
theorem cut_in {T G : Prop} (h : T) (k : T → G) : G := k h
end Go.Proofs.YtaccamlplikkfaaGreatDoor
