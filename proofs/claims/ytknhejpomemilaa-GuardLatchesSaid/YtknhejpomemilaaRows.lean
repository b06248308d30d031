/-
  No cell of these rows narrows 'for every input' (looked for: loops, veiled, ifaces, maps, wideKeys, modest, calm, conditions, laid).
  DERIVED. THE GIVEN ROWS OF THIS SEAT. 4 by the template 'for every input the law returns true; each argument reads behind the call as it read before'; 0 by the template 'total and deterministic' (their statements: YtknhejpomemilaaTotals.lean).
  GIVEN WITH THE SEED: the statements are not yours to turn. If you find one false, say at which input.
  Laid BY PROGRAM, IN A SANDBOX (cutbox-rows.mjs): the forced cells as the released guide's own fill.sh prints them over the translation 2a43441be3549ae8… (all of the seat's roots in one cut). By AI agents, Wed Nov 11 2026. No macro, syntax, notation, axiom, sorry.
-/
import Derived.Test.YtknhejpomemilaaChecked
import GoSem.Claim
import GoSem.ClaimJoined
import GoSem.ClaimMapViews
import Derived.JoinedTies
import Derived.KernelRfl
namespace Go.Proofs.Ytknhejpomemilaa
/- THE CELL 'sum', in the pinned program and in every row, IS THE sha256 OF THE DUMP (.gsa) THAT YtknhejpomemilaaProg.lean LOADS. Nothing in Lean hashes anything: it is a label: what it is worth is what the hold of that sum in a sandbox is worth. -/
noncomputable def Try.pinned : Pinned := { name := "ytknhejpomemilaa", sum := "2a43441be3549ae8f3a7a26f6393e1ce9544112da5ba2ab10936acb2a54bdab7", checked := Try.checked }
namespace Rows
def none {H : Type} : Left H := { results := [], args := [] }

/-- 'pinchcocklaw35.GuardLatches': WHATEVER THE INPUT: true; the input reads as it did. -/
def guardLatchesSpec : ChangeSpec := { name := "guardLatches", fn := fun _ => fun
  | [d1, d2] => { results := [.lit (.bool true)], args := [d1, d2] }
  | _ => none }
def guardLatchesRow : OpenClaim := { program := "ytknhejpomemilaa", sum := "2a43441be3549ae8f3a7a26f6393e1ce9544112da5ba2ab10936acb2a54bdab7", func := "pinchcock/pinchcocklaw35.GuardLatches", spec := "guardLatches", inPlace := ["math/bits.Add64"], unfollowed := true, recurses := true, named := ["math/bits.divideError", "math/bits.overflowError"], apart := false }
def GuardLatchesSaid : Prop := guardLatchesRow.holds Try.pinned (OpenSpec.ofChange guardLatchesSpec)

/-- ITS FALSE NEIGHBOUR: 'it returns false'. Refute it at one input. -/
def guardLatchesWrong : ChangeSpec := { name := "guardLatches", fn := fun _ => fun
  | [d1, d2] => { results := [.lit (.bool false)], args := [d1, d2] }
  | _ => none }
def GuardLatchesWrongFalsely : Prop := guardLatchesRow.holds Try.pinned (OpenSpec.ofChange guardLatchesWrong)

/-- 'pinchcocklaw35.GuardFree': WHATEVER THE INPUT: true; the input reads as it did. -/
def guardFreeSpec : ChangeSpec := { name := "guardFree", fn := fun _ => fun
  | [d1, d2, d3] => { results := [.lit (.bool true)], args := [d1, d2, d3] }
  | _ => none }
def guardFreeRow : OpenClaim := { program := "ytknhejpomemilaa", sum := "2a43441be3549ae8f3a7a26f6393e1ce9544112da5ba2ab10936acb2a54bdab7", func := "pinchcock/pinchcocklaw35.GuardFree", spec := "guardFree", inPlace := ["math/bits.Add64"], unfollowed := true, recurses := true, named := ["math/bits.divideError", "math/bits.overflowError"], apart := false }
def GuardFreeSaid : Prop := guardFreeRow.holds Try.pinned (OpenSpec.ofChange guardFreeSpec)

/-- ITS FALSE NEIGHBOUR: 'it returns false'. Refute it at one input. -/
def guardFreeWrong : ChangeSpec := { name := "guardFree", fn := fun _ => fun
  | [d1, d2, d3] => { results := [.lit (.bool false)], args := [d1, d2, d3] }
  | _ => none }
def GuardFreeWrongFalsely : Prop := guardFreeRow.holds Try.pinned (OpenSpec.ofChange guardFreeWrong)

/-- 'pinchcocklaw35.GuardLoss': WHATEVER THE INPUT: true; the input reads as it did. -/
def guardLossSpec : ChangeSpec := { name := "guardLoss", fn := fun _ => fun
  | [d1, d2] => { results := [.lit (.bool true)], args := [d1, d2] }
  | _ => none }
def guardLossRow : OpenClaim := { program := "ytknhejpomemilaa", sum := "2a43441be3549ae8f3a7a26f6393e1ce9544112da5ba2ab10936acb2a54bdab7", func := "pinchcock/pinchcocklaw35.GuardLoss", spec := "guardLoss", inPlace := ["math/bits.Add64"], unfollowed := true, recurses := true, named := ["math/bits.divideError", "math/bits.overflowError"], apart := false }
def GuardLossSaid : Prop := guardLossRow.holds Try.pinned (OpenSpec.ofChange guardLossSpec)

/-- ITS FALSE NEIGHBOUR: 'it returns false'. Refute it at one input. -/
def guardLossWrong : ChangeSpec := { name := "guardLoss", fn := fun _ => fun
  | [d1, d2] => { results := [.lit (.bool false)], args := [d1, d2] }
  | _ => none }
def GuardLossWrongFalsely : Prop := guardLossRow.holds Try.pinned (OpenSpec.ofChange guardLossWrong)

/-- 'pinchcocklaw11.RecordApart': WHATEVER THE INPUT: true; the input reads as it did. -/
def recordApartSpec : ChangeSpec := { name := "recordApart", fn := fun _ => fun
  | [d1, d2, d3] => { results := [.lit (.bool true)], args := [d1, d2, d3] }
  | _ => none }
def recordApartRow : OpenClaim := { program := "ytknhejpomemilaa", sum := "2a43441be3549ae8f3a7a26f6393e1ce9544112da5ba2ab10936acb2a54bdab7", func := "pinchcock/pinchcocklaw11.RecordApart", spec := "recordApart", inPlace := ["math.archFloor", "math.Float64bits", "math.Float64frombits", "math.archTrunc"], unfollowed := true, recurses := true, apart := false }
def RecordApartSaid : Prop := recordApartRow.holds Try.pinned (OpenSpec.ofChange recordApartSpec)

/-- ITS FALSE NEIGHBOUR: 'it returns false'. Refute it at one input. -/
def recordApartWrong : ChangeSpec := { name := "recordApart", fn := fun _ => fun
  | [d1, d2, d3] => { results := [.lit (.bool false)], args := [d1, d2, d3] }
  | _ => none }
def RecordApartWrongFalsely : Prop := recordApartRow.holds Try.pinned (OpenSpec.ofChange recordApartWrong)

/- THE SECOND FORM. 'bulk': how many values and letters a reading holds, each counted each time it is reached (what is shared counts as often as it is met; a slice's spare places count too). A statement '..UptoSaid' is the law's where the arguments, and the package variables that the reading takes, are together of bulk at most 1048576: NARROWER than '..Said'. Prove '..Said' where nothing that the law and all that it calls make is longer than what came in: it says more and counts as full. Else prove '..UptoSaid'. A law counts once. -/
mutual
def uptoBulk {H : Type} : DataW H → Nat
  | .lit (.string bytes) => bytes.length + 1
  | .lit _ => 1
  | .nil => 1
  | .ptr d => uptoBulk d + 1
  | .slice elems spare => uptoBulkAll elems + uptoBulkAll spare + 1
  | .agg parts => uptoBulkAll parts + 1
  | .iface _ d => uptoBulk d + 1
  | .map entries => uptoBulkEntries entries + 1
  | .held _ => 1
def uptoBulkAll {H : Type} : List (DataW H) → Nat
  | [] => 0
  | d :: r => uptoBulk d + uptoBulkAll r
def uptoBulkEntries {H : Type} : List (Lit × DataW H) → Nat
  | [] => 0
  | x :: r => uptoBulkEntry x + uptoBulkEntries r
def uptoBulkEntry {H : Type} : Lit × DataW H → Nat
  | (.string bytes, d) => bytes.length + uptoBulk d + 1
  | (_, d) => uptoBulk d + 1
 end
def uptoSmall : (H : Type) → List (DataW H) → Bool := fun _ ds => decide (uptoBulkAll ds ≤ 1048576)
def OpenSpec.upto (s : _root_.Go.ChangeSpec) : _root_.Go.OpenSpec := { _root_.Go.OpenSpec.ofChange s with cond := some uptoSmall }

/-- 'pinchcocklaw35.GuardLatches', WHERE WHAT IT READS IS OF BULK AT MOST 1048576: true; the input reads as it did. -/
def guardLatchesUptoRow : OpenClaim := { program := "ytknhejpomemilaa", sum := "2a43441be3549ae8f3a7a26f6393e1ce9544112da5ba2ab10936acb2a54bdab7", func := "pinchcock/pinchcocklaw35.GuardLatches", spec := "guardLatches", inPlace := ["math/bits.Add64"], unfollowed := true, recurses := true, named := ["math/bits.divideError", "math/bits.overflowError"], apart := false, narrowed := true }
def GuardLatchesUptoSaid : Prop := guardLatchesUptoRow.holds Try.pinned (OpenSpec.upto guardLatchesSpec)

/-- 'pinchcocklaw35.GuardFree', WHERE WHAT IT READS IS OF BULK AT MOST 1048576: true; the input reads as it did. -/
def guardFreeUptoRow : OpenClaim := { program := "ytknhejpomemilaa", sum := "2a43441be3549ae8f3a7a26f6393e1ce9544112da5ba2ab10936acb2a54bdab7", func := "pinchcock/pinchcocklaw35.GuardFree", spec := "guardFree", inPlace := ["math/bits.Add64"], unfollowed := true, recurses := true, named := ["math/bits.divideError", "math/bits.overflowError"], apart := false, narrowed := true }
def GuardFreeUptoSaid : Prop := guardFreeUptoRow.holds Try.pinned (OpenSpec.upto guardFreeSpec)

/-- 'pinchcocklaw35.GuardLoss', WHERE WHAT IT READS IS OF BULK AT MOST 1048576: true; the input reads as it did. -/
def guardLossUptoRow : OpenClaim := { program := "ytknhejpomemilaa", sum := "2a43441be3549ae8f3a7a26f6393e1ce9544112da5ba2ab10936acb2a54bdab7", func := "pinchcock/pinchcocklaw35.GuardLoss", spec := "guardLoss", inPlace := ["math/bits.Add64"], unfollowed := true, recurses := true, named := ["math/bits.divideError", "math/bits.overflowError"], apart := false, narrowed := true }
def GuardLossUptoSaid : Prop := guardLossUptoRow.holds Try.pinned (OpenSpec.upto guardLossSpec)

/-- 'pinchcocklaw11.RecordApart', WHERE WHAT IT READS IS OF BULK AT MOST 1048576: true; the input reads as it did. -/
def recordApartUptoRow : OpenClaim := { program := "ytknhejpomemilaa", sum := "2a43441be3549ae8f3a7a26f6393e1ce9544112da5ba2ab10936acb2a54bdab7", func := "pinchcock/pinchcocklaw11.RecordApart", spec := "recordApart", inPlace := ["math.archFloor", "math.Float64bits", "math.Float64frombits", "math.archTrunc"], unfollowed := true, recurses := true, apart := false, narrowed := true }
def RecordApartUptoSaid : Prop := recordApartUptoRow.holds Try.pinned (OpenSpec.upto recordApartSpec)

end Rows
end Go.Proofs.Ytknhejpomemilaa
