/-
  No cell of these rows narrows 'for every input' (looked for: loops, veiled, ifaces, maps, wideKeys, modest, calm, conditions, laid).
  DERIVED. THE GIVEN ROWS OF THIS SEAT. 4 by the template 'for every input the law returns true; each argument reads behind the call as it read before'; 0 by the template 'total and deterministic' (their statements: YtdnekdkdnfkpdaaTotals.lean).
  GIVEN WITH THE SEED: the statements are not yours to turn. If you find one false, say at which input.
  Laid BY PROGRAM, IN A SANDBOX (cutbox-rows.mjs): the forced cells as the released guide's own fill.sh prints them over the translation eb9b79992ef22904… (all of the seat's roots in one cut). By AI agents, Wed Nov 11 2026. No macro, syntax, notation, axiom, sorry.
-/
import Derived.Test.YtdnekdkdnfkpdaaChecked
import GoSem.Claim
import GoSem.ClaimJoined
import GoSem.ClaimMapViews
import Derived.JoinedTies
import Derived.KernelRfl
namespace Go.Proofs.Ytdnekdkdnfkpdaa
/- THE CELL 'sum', in the pinned program and in every row, IS THE sha256 OF THE DUMP (.gsa) THAT YtdnekdkdnfkpdaaProg.lean LOADS. Nothing in Lean hashes anything: it is a label: what it is worth is what the hold of that sum in a sandbox is worth. -/
noncomputable def Try.pinned : Pinned := { name := "ytdnekdkdnfkpdaa", sum := "eb9b79992ef2290481928901066abfd4dde30626f3d9c7e144f016675e92eac3", checked := Try.checked }
namespace Rows
def none {H : Type} : Left H := { results := [], args := [] }

/-- 'pinchcocklaw12.MotorSays': WHATEVER THE INPUT: true; the input reads as it did. -/
def motorSaysSpec : ChangeSpec := { name := "motorSays", fn := fun _ => fun
  | [d1, d2] => { results := [.lit (.bool true)], args := [d1, d2] }
  | _ => none }
def motorSaysRow : OpenClaim := { program := "ytdnekdkdnfkpdaa", sum := "eb9b79992ef2290481928901066abfd4dde30626f3d9c7e144f016675e92eac3", func := "pinchcock/pinchcocklaw12.MotorSays", spec := "motorSays", apart := false }
def MotorSaysSaid : Prop := motorSaysRow.holds Try.pinned (OpenSpec.ofChange motorSaysSpec)

/-- ITS FALSE NEIGHBOUR: 'it returns false'. Refute it at one input. -/
def motorSaysWrong : ChangeSpec := { name := "motorSays", fn := fun _ => fun
  | [d1, d2] => { results := [.lit (.bool false)], args := [d1, d2] }
  | _ => none }
def MotorSaysWrongFalsely : Prop := motorSaysRow.holds Try.pinned (OpenSpec.ofChange motorSaysWrong)

/-- 'pinchcocklaw12.MotorShuts': WHATEVER THE INPUT: true; the input reads as it did. -/
def motorShutsSpec : ChangeSpec := { name := "motorShuts", fn := fun _ => fun
  | [d1, d2] => { results := [.lit (.bool true)], args := [d1, d2] }
  | _ => none }
def motorShutsRow : OpenClaim := { program := "ytdnekdkdnfkpdaa", sum := "eb9b79992ef2290481928901066abfd4dde30626f3d9c7e144f016675e92eac3", func := "pinchcock/pinchcocklaw12.MotorShuts", spec := "motorShuts", apart := false }
def MotorShutsSaid : Prop := motorShutsRow.holds Try.pinned (OpenSpec.ofChange motorShutsSpec)

/-- ITS FALSE NEIGHBOUR: 'it returns false'. Refute it at one input. -/
def motorShutsWrong : ChangeSpec := { name := "motorShuts", fn := fun _ => fun
  | [d1, d2] => { results := [.lit (.bool false)], args := [d1, d2] }
  | _ => none }
def MotorShutsWrongFalsely : Prop := motorShutsRow.holds Try.pinned (OpenSpec.ofChange motorShutsWrong)

/-- 'pinchcocklaw12.MotorReaches': WHATEVER THE INPUT: true; the input reads as it did. -/
def motorReachesSpec : ChangeSpec := { name := "motorReaches", fn := fun _ => fun
  | [d1, d2] => { results := [.lit (.bool true)], args := [d1, d2] }
  | _ => none }
def motorReachesRow : OpenClaim := { program := "ytdnekdkdnfkpdaa", sum := "eb9b79992ef2290481928901066abfd4dde30626f3d9c7e144f016675e92eac3", func := "pinchcock/pinchcocklaw12.MotorReaches", spec := "motorReaches", apart := false }
def MotorReachesSaid : Prop := motorReachesRow.holds Try.pinned (OpenSpec.ofChange motorReachesSpec)

/-- ITS FALSE NEIGHBOUR: 'it returns false'. Refute it at one input. -/
def motorReachesWrong : ChangeSpec := { name := "motorReaches", fn := fun _ => fun
  | [d1, d2] => { results := [.lit (.bool false)], args := [d1, d2] }
  | _ => none }
def MotorReachesWrongFalsely : Prop := motorReachesRow.holds Try.pinned (OpenSpec.ofChange motorReachesWrong)

/-- 'pinchcocklaw12.MotorHomes': WHATEVER THE INPUT: true; the input reads as it did. -/
def motorHomesSpec : ChangeSpec := { name := "motorHomes", fn := fun _ => fun
  | [d1, d2] => { results := [.lit (.bool true)], args := [d1, d2] }
  | _ => none }
def motorHomesRow : OpenClaim := { program := "ytdnekdkdnfkpdaa", sum := "eb9b79992ef2290481928901066abfd4dde30626f3d9c7e144f016675e92eac3", func := "pinchcock/pinchcocklaw12.MotorHomes", spec := "motorHomes", apart := false }
def MotorHomesSaid : Prop := motorHomesRow.holds Try.pinned (OpenSpec.ofChange motorHomesSpec)

/-- ITS FALSE NEIGHBOUR: 'it returns false'. Refute it at one input. -/
def motorHomesWrong : ChangeSpec := { name := "motorHomes", fn := fun _ => fun
  | [d1, d2] => { results := [.lit (.bool false)], args := [d1, d2] }
  | _ => none }
def MotorHomesWrongFalsely : Prop := motorHomesRow.holds Try.pinned (OpenSpec.ofChange motorHomesWrong)

/- THE SECOND FORM. 'bulk': how many values and letters a reading holds, each counted each time it is reached (what is shared counts as often as it is met; a slice's spare places count too). A statement '..UptoSaid' is the law's where the arguments, and the package variables that the reading takes, are together of bulk at most 1048576: NARROWER than '..Said'. Prove '..Said' where nothing that the law and all that it calls make is longer than what came in: it says more and counts as full. Else prove '..UptoSaid'. A law counts once. -/
mutual
def uptoBulk {H : Type} : DataW H → Nat
  | .lit (.string bytes) => bytes.length + 1
  | .lit _ => 1
  | .nil => 1
  | .ptr d => uptoBulk d + 1
  | .slice elems spare => uptoBulkAll elems + uptoBulkAll spare + 1
  | .agg parts => uptoBulkAll parts + 1
  | .iface _ d => uptoBulk d + 1
  | .map entries => uptoBulkEntries entries + 1
  | .held _ => 1
def uptoBulkAll {H : Type} : List (DataW H) → Nat
  | [] => 0
  | d :: r => uptoBulk d + uptoBulkAll r
def uptoBulkEntries {H : Type} : List (Lit × DataW H) → Nat
  | [] => 0
  | x :: r => uptoBulkEntry x + uptoBulkEntries r
def uptoBulkEntry {H : Type} : Lit × DataW H → Nat
  | (.string bytes, d) => bytes.length + uptoBulk d + 1
  | (_, d) => uptoBulk d + 1
 end
def uptoSmall : (H : Type) → List (DataW H) → Bool := fun _ ds => decide (uptoBulkAll ds ≤ 1048576)
def OpenSpec.upto (s : _root_.Go.ChangeSpec) : _root_.Go.OpenSpec := { _root_.Go.OpenSpec.ofChange s with cond := some uptoSmall }

/-- 'pinchcocklaw12.MotorSays', WHERE WHAT IT READS IS OF BULK AT MOST 1048576: true; the input reads as it did. -/
def motorSaysUptoRow : OpenClaim := { program := "ytdnekdkdnfkpdaa", sum := "eb9b79992ef2290481928901066abfd4dde30626f3d9c7e144f016675e92eac3", func := "pinchcock/pinchcocklaw12.MotorSays", spec := "motorSays", apart := false, narrowed := true }
def MotorSaysUptoSaid : Prop := motorSaysUptoRow.holds Try.pinned (OpenSpec.upto motorSaysSpec)

/-- 'pinchcocklaw12.MotorShuts', WHERE WHAT IT READS IS OF BULK AT MOST 1048576: true; the input reads as it did. -/
def motorShutsUptoRow : OpenClaim := { program := "ytdnekdkdnfkpdaa", sum := "eb9b79992ef2290481928901066abfd4dde30626f3d9c7e144f016675e92eac3", func := "pinchcock/pinchcocklaw12.MotorShuts", spec := "motorShuts", apart := false, narrowed := true }
def MotorShutsUptoSaid : Prop := motorShutsUptoRow.holds Try.pinned (OpenSpec.upto motorShutsSpec)

/-- 'pinchcocklaw12.MotorReaches', WHERE WHAT IT READS IS OF BULK AT MOST 1048576: true; the input reads as it did. -/
def motorReachesUptoRow : OpenClaim := { program := "ytdnekdkdnfkpdaa", sum := "eb9b79992ef2290481928901066abfd4dde30626f3d9c7e144f016675e92eac3", func := "pinchcock/pinchcocklaw12.MotorReaches", spec := "motorReaches", apart := false, narrowed := true }
def MotorReachesUptoSaid : Prop := motorReachesUptoRow.holds Try.pinned (OpenSpec.upto motorReachesSpec)

/-- 'pinchcocklaw12.MotorHomes', WHERE WHAT IT READS IS OF BULK AT MOST 1048576: true; the input reads as it did. -/
def motorHomesUptoRow : OpenClaim := { program := "ytdnekdkdnfkpdaa", sum := "eb9b79992ef2290481928901066abfd4dde30626f3d9c7e144f016675e92eac3", func := "pinchcock/pinchcocklaw12.MotorHomes", spec := "motorHomes", apart := false, narrowed := true }
def MotorHomesUptoSaid : Prop := motorHomesUptoRow.holds Try.pinned (OpenSpec.upto motorHomesSpec)

end Rows
end Go.Proofs.Ytdnekdkdnfkpdaa
