/-
  No cell of these rows narrows 'for every input' (looked for: loops, veiled, ifaces, maps, wideKeys, modest, calm, conditions, laid).
  DERIVED. THE GIVEN ROWS OF THIS SEAT. 4 by the template 'for every input the law returns true; each argument reads behind the call as it read before'; 0 by the template 'total and deterministic' (their statements: YtonlcpodedpnpaaTotals.lean).
  GIVEN WITH THE SEED: the statements are not yours to turn. If you find one false, say at which input.
  Laid BY PROGRAM, IN A SANDBOX (cutbox-rows.mjs): the forced cells as the released guide's own fill.sh prints them over the translation 9fe89aea739762b4… (all of the seat's roots in one cut). By AI agents, Wed Nov 11 2026. No macro, syntax, notation, axiom, sorry.
-/
import Derived.Test.YtonlcpodedpnpaaChecked
import GoSem.Claim
import GoSem.ClaimJoined
import GoSem.ClaimMapViews
import Derived.JoinedTies
import Derived.KernelRfl
namespace Go.Proofs.Ytonlcpodedpnpaa
/- THE CELL 'sum', in the pinned program and in every row, IS THE sha256 OF THE DUMP (.gsa) THAT YtonlcpodedpnpaaProg.lean LOADS. Nothing in Lean hashes anything: it is a label: what it is worth is what the hold of that sum in a sandbox is worth. -/
noncomputable def Try.pinned : Pinned := { name := "ytonlcpodedpnpaa", sum := "9fe89aea739762b4e3273dd25f40da739e4a8da120375f710ca30eb20ebc0b96", checked := Try.checked }
namespace Rows
def none {H : Type} : Left H := { results := [], args := [] }

/-- 'pinchcocklaw02.QuotSays': WHATEVER THE INPUT: true; the input reads as it did. -/
def quotSaysSpec : ChangeSpec := { name := "quotSays", fn := fun _ => fun
  | [d1, d2, d3] => { results := [.lit (.bool true)], args := [d1, d2, d3] }
  | _ => none }
def quotSaysRow : OpenClaim := { program := "ytonlcpodedpnpaa", sum := "9fe89aea739762b4e3273dd25f40da739e4a8da120375f710ca30eb20ebc0b96", func := "pinchcock/pinchcocklaw02.QuotSays", spec := "quotSays", inPlace := ["math/bits.Add64"], unfollowed := true, recurses := true, named := ["math/bits.divideError", "math/bits.overflowError"], apart := false }
def QuotSaysSaid : Prop := quotSaysRow.holds Try.pinned (OpenSpec.ofChange quotSaysSpec)

/-- ITS FALSE NEIGHBOUR: 'it returns false'. Refute it at one input. -/
def quotSaysWrong : ChangeSpec := { name := "quotSays", fn := fun _ => fun
  | [d1, d2, d3] => { results := [.lit (.bool false)], args := [d1, d2, d3] }
  | _ => none }
def QuotSaysWrongFalsely : Prop := quotSaysRow.holds Try.pinned (OpenSpec.ofChange quotSaysWrong)

/-- 'pinchcocklaw02.QuotLeaves': WHATEVER THE INPUT: true; the input reads as it did. -/
def quotLeavesSpec : ChangeSpec := { name := "quotLeaves", fn := fun _ => fun
  | [d1, d2] => { results := [.lit (.bool true)], args := [d1, d2] }
  | _ => none }
def quotLeavesRow : OpenClaim := { program := "ytonlcpodedpnpaa", sum := "9fe89aea739762b4e3273dd25f40da739e4a8da120375f710ca30eb20ebc0b96", func := "pinchcock/pinchcocklaw02.QuotLeaves", spec := "quotLeaves", inPlace := ["math/bits.Add64"], unfollowed := true, recurses := true, named := ["math/bits.divideError", "math/bits.overflowError"], apart := false }
def QuotLeavesSaid : Prop := quotLeavesRow.holds Try.pinned (OpenSpec.ofChange quotLeavesSpec)

/-- ITS FALSE NEIGHBOUR: 'it returns false'. Refute it at one input. -/
def quotLeavesWrong : ChangeSpec := { name := "quotLeaves", fn := fun _ => fun
  | [d1, d2] => { results := [.lit (.bool false)], args := [d1, d2] }
  | _ => none }
def QuotLeavesWrongFalsely : Prop := quotLeavesRow.holds Try.pinned (OpenSpec.ofChange quotLeavesWrong)

/-- 'pinchcocklaw02.QuotBack': WHATEVER THE INPUT: true; the input reads as it did. -/
def quotBackSpec : ChangeSpec := { name := "quotBack", fn := fun _ => fun
  | [d1, d2, d3] => { results := [.lit (.bool true)], args := [d1, d2, d3] }
  | _ => none }
def quotBackRow : OpenClaim := { program := "ytonlcpodedpnpaa", sum := "9fe89aea739762b4e3273dd25f40da739e4a8da120375f710ca30eb20ebc0b96", func := "pinchcock/pinchcocklaw02.QuotBack", spec := "quotBack", inPlace := ["math/bits.Add64"], unfollowed := true, recurses := true, named := ["math/bits.divideError", "math/bits.overflowError"], apart := false }
def QuotBackSaid : Prop := quotBackRow.holds Try.pinned (OpenSpec.ofChange quotBackSpec)

/-- ITS FALSE NEIGHBOUR: 'it returns false'. Refute it at one input. -/
def quotBackWrong : ChangeSpec := { name := "quotBack", fn := fun _ => fun
  | [d1, d2, d3] => { results := [.lit (.bool false)], args := [d1, d2, d3] }
  | _ => none }
def QuotBackWrongFalsely : Prop := quotBackRow.holds Try.pinned (OpenSpec.ofChange quotBackWrong)

/-- 'pinchcocklaw02.QuotRises': WHATEVER THE INPUT: true; the input reads as it did. -/
def quotRisesSpec : ChangeSpec := { name := "quotRises", fn := fun _ => fun
  | [d1, d2, d3] => { results := [.lit (.bool true)], args := [d1, d2, d3] }
  | _ => none }
def quotRisesRow : OpenClaim := { program := "ytonlcpodedpnpaa", sum := "9fe89aea739762b4e3273dd25f40da739e4a8da120375f710ca30eb20ebc0b96", func := "pinchcock/pinchcocklaw02.QuotRises", spec := "quotRises", inPlace := ["math/bits.Add64"], unfollowed := true, recurses := true, named := ["math/bits.divideError", "math/bits.overflowError"], apart := false }
def QuotRisesSaid : Prop := quotRisesRow.holds Try.pinned (OpenSpec.ofChange quotRisesSpec)

/-- ITS FALSE NEIGHBOUR: 'it returns false'. Refute it at one input. -/
def quotRisesWrong : ChangeSpec := { name := "quotRises", fn := fun _ => fun
  | [d1, d2, d3] => { results := [.lit (.bool false)], args := [d1, d2, d3] }
  | _ => none }
def QuotRisesWrongFalsely : Prop := quotRisesRow.holds Try.pinned (OpenSpec.ofChange quotRisesWrong)

/- THE SECOND FORM. 'bulk': how many values and letters a reading holds, each counted each time it is reached (what is shared counts as often as it is met; a slice's spare places count too). A statement '..UptoSaid' is the law's where the arguments, and the package variables that the reading takes, are together of bulk at most 1048576: NARROWER than '..Said'. Prove '..Said' where nothing that the law and all that it calls make is longer than what came in: it says more and counts as full. Else prove '..UptoSaid'. A law counts once. -/
mutual
def uptoBulk {H : Type} : DataW H → Nat
  | .lit (.string bytes) => bytes.length + 1
  | .lit _ => 1
  | .nil => 1
  | .ptr d => uptoBulk d + 1
  | .slice elems spare => uptoBulkAll elems + uptoBulkAll spare + 1
  | .agg parts => uptoBulkAll parts + 1
  | .iface _ d => uptoBulk d + 1
  | .map entries => uptoBulkEntries entries + 1
  | .held _ => 1
def uptoBulkAll {H : Type} : List (DataW H) → Nat
  | [] => 0
  | d :: r => uptoBulk d + uptoBulkAll r
def uptoBulkEntries {H : Type} : List (Lit × DataW H) → Nat
  | [] => 0
  | x :: r => uptoBulkEntry x + uptoBulkEntries r
def uptoBulkEntry {H : Type} : Lit × DataW H → Nat
  | (.string bytes, d) => bytes.length + uptoBulk d + 1
  | (_, d) => uptoBulk d + 1
 end
def uptoSmall : (H : Type) → List (DataW H) → Bool := fun _ ds => decide (uptoBulkAll ds ≤ 1048576)
def OpenSpec.upto (s : _root_.Go.ChangeSpec) : _root_.Go.OpenSpec := { _root_.Go.OpenSpec.ofChange s with cond := some uptoSmall }

/-- 'pinchcocklaw02.QuotSays', WHERE WHAT IT READS IS OF BULK AT MOST 1048576: true; the input reads as it did. -/
def quotSaysUptoRow : OpenClaim := { program := "ytonlcpodedpnpaa", sum := "9fe89aea739762b4e3273dd25f40da739e4a8da120375f710ca30eb20ebc0b96", func := "pinchcock/pinchcocklaw02.QuotSays", spec := "quotSays", inPlace := ["math/bits.Add64"], unfollowed := true, recurses := true, named := ["math/bits.divideError", "math/bits.overflowError"], apart := false, narrowed := true }
def QuotSaysUptoSaid : Prop := quotSaysUptoRow.holds Try.pinned (OpenSpec.upto quotSaysSpec)

/-- 'pinchcocklaw02.QuotLeaves', WHERE WHAT IT READS IS OF BULK AT MOST 1048576: true; the input reads as it did. -/
def quotLeavesUptoRow : OpenClaim := { program := "ytonlcpodedpnpaa", sum := "9fe89aea739762b4e3273dd25f40da739e4a8da120375f710ca30eb20ebc0b96", func := "pinchcock/pinchcocklaw02.QuotLeaves", spec := "quotLeaves", inPlace := ["math/bits.Add64"], unfollowed := true, recurses := true, named := ["math/bits.divideError", "math/bits.overflowError"], apart := false, narrowed := true }
def QuotLeavesUptoSaid : Prop := quotLeavesUptoRow.holds Try.pinned (OpenSpec.upto quotLeavesSpec)

/-- 'pinchcocklaw02.QuotBack', WHERE WHAT IT READS IS OF BULK AT MOST 1048576: true; the input reads as it did. -/
def quotBackUptoRow : OpenClaim := { program := "ytonlcpodedpnpaa", sum := "9fe89aea739762b4e3273dd25f40da739e4a8da120375f710ca30eb20ebc0b96", func := "pinchcock/pinchcocklaw02.QuotBack", spec := "quotBack", inPlace := ["math/bits.Add64"], unfollowed := true, recurses := true, named := ["math/bits.divideError", "math/bits.overflowError"], apart := false, narrowed := true }
def QuotBackUptoSaid : Prop := quotBackUptoRow.holds Try.pinned (OpenSpec.upto quotBackSpec)

/-- 'pinchcocklaw02.QuotRises', WHERE WHAT IT READS IS OF BULK AT MOST 1048576: true; the input reads as it did. -/
def quotRisesUptoRow : OpenClaim := { program := "ytonlcpodedpnpaa", sum := "9fe89aea739762b4e3273dd25f40da739e4a8da120375f710ca30eb20ebc0b96", func := "pinchcock/pinchcocklaw02.QuotRises", spec := "quotRises", inPlace := ["math/bits.Add64"], unfollowed := true, recurses := true, named := ["math/bits.divideError", "math/bits.overflowError"], apart := false, narrowed := true }
def QuotRisesUptoSaid : Prop := quotRisesUptoRow.holds Try.pinned (OpenSpec.upto quotRisesSpec)

end Rows
end Go.Proofs.Ytonlcpodedpnpaa
