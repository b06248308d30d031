/-
  No cell of these rows narrows 'for every input' (looked for: loops, veiled, ifaces, maps, wideKeys, modest, calm, conditions, laid).
  DERIVED. THE GIVEN ROWS OF THIS SEAT. 9 by the template 'for every input the law returns true; each argument reads behind the call as it read before'; 0 by the template 'total and deterministic' (their statements: YtcofnffoaiiboaaTotals.lean).
  GIVEN WITH THE SEED: the statements are not yours to turn. If you find one false, say at which input.
  Laid BY PROGRAM, IN A SANDBOX (cutbox-rows.mjs): the forced cells as the released guide's own fill.sh prints them over the translation a48a8e444006c01a… (all of the seat's roots in one cut). By AI agents, Wed Nov 11 2026. No macro, syntax, notation, axiom, sorry.
-/
import Derived.Test.YtcofnffoaiiboaaChecked
import GoSem.Claim
import GoSem.ClaimJoined
import GoSem.ClaimMapViews
import Derived.JoinedTies
import Derived.KernelRfl
namespace Go.Proofs.Ytcofnffoaiiboaa
/- THE CELL 'sum', in the pinned program and in every row, IS THE sha256 OF THE DUMP (.gsa) THAT YtcofnffoaiiboaaProg.lean LOADS. Nothing in Lean hashes anything: it is a label: what it is worth is what the hold of that sum in a sandbox is worth. -/
noncomputable def Try.pinned : Pinned := { name := "ytcofnffoaiiboaa", sum := "a48a8e444006c01a29b75fdd2a91fbb8650dfa4f270e6662fdf49283141148ab", checked := Try.checked }
namespace Rows
def none {H : Type} : Left H := { results := [], args := [] }

/-- 'pinchcocklaw30.ControlSays': WHATEVER THE INPUT: true; the input reads as it did. -/
def controlSaysSpec : ChangeSpec := { name := "controlSays", fn := fun _ => fun
  | [d1, d2, d3] => { results := [.lit (.bool true)], args := [d1, d2, d3] }
  | _ => none }
def controlSaysRow : OpenClaim := { program := "ytcofnffoaiiboaa", sum := "a48a8e444006c01a29b75fdd2a91fbb8650dfa4f270e6662fdf49283141148ab", func := "pinchcock/pinchcocklaw30.ControlSays", spec := "controlSays", inPlace := ["math/bits.Add64"], unfollowed := true, recurses := true, named := ["math/bits.divideError", "math/bits.overflowError"], apart := false }
def ControlSaysSaid : Prop := controlSaysRow.holds Try.pinned (OpenSpec.ofChange controlSaysSpec)

/-- ITS FALSE NEIGHBOUR: 'it returns false'. Refute it at one input. -/
def controlSaysWrong : ChangeSpec := { name := "controlSays", fn := fun _ => fun
  | [d1, d2, d3] => { results := [.lit (.bool false)], args := [d1, d2, d3] }
  | _ => none }
def ControlSaysWrongFalsely : Prop := controlSaysRow.holds Try.pinned (OpenSpec.ofChange controlSaysWrong)

/-- 'pinchcocklaw30.ControlShuts': WHATEVER THE INPUT: true; the input reads as it did. -/
def controlShutsSpec : ChangeSpec := { name := "controlShuts", fn := fun _ => fun
  | [d1, d2] => { results := [.lit (.bool true)], args := [d1, d2] }
  | _ => none }
def controlShutsRow : OpenClaim := { program := "ytcofnffoaiiboaa", sum := "a48a8e444006c01a29b75fdd2a91fbb8650dfa4f270e6662fdf49283141148ab", func := "pinchcock/pinchcocklaw30.ControlShuts", spec := "controlShuts", inPlace := ["math/bits.Add64"], unfollowed := true, recurses := true, named := ["math/bits.divideError", "math/bits.overflowError"], apart := false }
def ControlShutsSaid : Prop := controlShutsRow.holds Try.pinned (OpenSpec.ofChange controlShutsSpec)

/-- ITS FALSE NEIGHBOUR: 'it returns false'. Refute it at one input. -/
def controlShutsWrong : ChangeSpec := { name := "controlShuts", fn := fun _ => fun
  | [d1, d2] => { results := [.lit (.bool false)], args := [d1, d2] }
  | _ => none }
def ControlShutsWrongFalsely : Prop := controlShutsRow.holds Try.pinned (OpenSpec.ofChange controlShutsWrong)

/-- 'pinchcocklaw30.ControlMore': WHATEVER THE INPUT: true; the input reads as it did. -/
def controlMoreSpec : ChangeSpec := { name := "controlMore", fn := fun _ => fun
  | [d1, d2, d3] => { results := [.lit (.bool true)], args := [d1, d2, d3] }
  | _ => none }
def controlMoreRow : OpenClaim := { program := "ytcofnffoaiiboaa", sum := "a48a8e444006c01a29b75fdd2a91fbb8650dfa4f270e6662fdf49283141148ab", func := "pinchcock/pinchcocklaw30.ControlMore", spec := "controlMore", inPlace := ["math/bits.Add64"], unfollowed := true, recurses := true, named := ["math/bits.divideError", "math/bits.overflowError"], apart := false }
def ControlMoreSaid : Prop := controlMoreRow.holds Try.pinned (OpenSpec.ofChange controlMoreSpec)

/-- ITS FALSE NEIGHBOUR: 'it returns false'. Refute it at one input. -/
def controlMoreWrong : ChangeSpec := { name := "controlMore", fn := fun _ => fun
  | [d1, d2, d3] => { results := [.lit (.bool false)], args := [d1, d2, d3] }
  | _ => none }
def ControlMoreWrongFalsely : Prop := controlMoreRow.holds Try.pinned (OpenSpec.ofChange controlMoreWrong)

/-- 'pinchcocklaw35.GuardLatches': WHATEVER THE INPUT: true; the input reads as it did. -/
def guardLatchesSpec : ChangeSpec := { name := "guardLatches", fn := fun _ => fun
  | [d1, d2] => { results := [.lit (.bool true)], args := [d1, d2] }
  | _ => none }
def guardLatchesRow : OpenClaim := { program := "ytcofnffoaiiboaa", sum := "a48a8e444006c01a29b75fdd2a91fbb8650dfa4f270e6662fdf49283141148ab", func := "pinchcock/pinchcocklaw35.GuardLatches", spec := "guardLatches", inPlace := ["math/bits.Add64"], unfollowed := true, recurses := true, named := ["math/bits.divideError", "math/bits.overflowError"], apart := false }
def GuardLatchesSaid : Prop := guardLatchesRow.holds Try.pinned (OpenSpec.ofChange guardLatchesSpec)

/-- ITS FALSE NEIGHBOUR: 'it returns false'. Refute it at one input. -/
def guardLatchesWrong : ChangeSpec := { name := "guardLatches", fn := fun _ => fun
  | [d1, d2] => { results := [.lit (.bool false)], args := [d1, d2] }
  | _ => none }
def GuardLatchesWrongFalsely : Prop := guardLatchesRow.holds Try.pinned (OpenSpec.ofChange guardLatchesWrong)

/-- 'pinchcocklaw35.GuardFree': WHATEVER THE INPUT: true; the input reads as it did. -/
def guardFreeSpec : ChangeSpec := { name := "guardFree", fn := fun _ => fun
  | [d1, d2, d3] => { results := [.lit (.bool true)], args := [d1, d2, d3] }
  | _ => none }
def guardFreeRow : OpenClaim := { program := "ytcofnffoaiiboaa", sum := "a48a8e444006c01a29b75fdd2a91fbb8650dfa4f270e6662fdf49283141148ab", func := "pinchcock/pinchcocklaw35.GuardFree", spec := "guardFree", inPlace := ["math/bits.Add64"], unfollowed := true, recurses := true, named := ["math/bits.divideError", "math/bits.overflowError"], apart := false }
def GuardFreeSaid : Prop := guardFreeRow.holds Try.pinned (OpenSpec.ofChange guardFreeSpec)

/-- ITS FALSE NEIGHBOUR: 'it returns false'. Refute it at one input. -/
def guardFreeWrong : ChangeSpec := { name := "guardFree", fn := fun _ => fun
  | [d1, d2, d3] => { results := [.lit (.bool false)], args := [d1, d2, d3] }
  | _ => none }
def GuardFreeWrongFalsely : Prop := guardFreeRow.holds Try.pinned (OpenSpec.ofChange guardFreeWrong)

/-- 'pinchcocklaw35.GuardLoss': WHATEVER THE INPUT: true; the input reads as it did. -/
def guardLossSpec : ChangeSpec := { name := "guardLoss", fn := fun _ => fun
  | [d1, d2] => { results := [.lit (.bool true)], args := [d1, d2] }
  | _ => none }
def guardLossRow : OpenClaim := { program := "ytcofnffoaiiboaa", sum := "a48a8e444006c01a29b75fdd2a91fbb8650dfa4f270e6662fdf49283141148ab", func := "pinchcock/pinchcocklaw35.GuardLoss", spec := "guardLoss", inPlace := ["math/bits.Add64"], unfollowed := true, recurses := true, named := ["math/bits.divideError", "math/bits.overflowError"], apart := false }
def GuardLossSaid : Prop := guardLossRow.holds Try.pinned (OpenSpec.ofChange guardLossSpec)

/-- ITS FALSE NEIGHBOUR: 'it returns false'. Refute it at one input. -/
def guardLossWrong : ChangeSpec := { name := "guardLoss", fn := fun _ => fun
  | [d1, d2] => { results := [.lit (.bool false)], args := [d1, d2] }
  | _ => none }
def GuardLossWrongFalsely : Prop := guardLossRow.holds Try.pinned (OpenSpec.ofChange guardLossWrong)

/-- 'pinchcocklaw39.JournalSays': WHATEVER THE INPUT: true; the input reads as it did. -/
def journalSaysSpec : ChangeSpec := { name := "journalSays", fn := fun _ => fun
  | [d1, d2] => { results := [.lit (.bool true)], args := [d1, d2] }
  | _ => none }
def journalSaysRow : OpenClaim := { program := "ytcofnffoaiiboaa", sum := "a48a8e444006c01a29b75fdd2a91fbb8650dfa4f270e6662fdf49283141148ab", func := "pinchcock/pinchcocklaw39.JournalSays", spec := "journalSays", apart := false }
def JournalSaysSaid : Prop := journalSaysRow.holds Try.pinned (OpenSpec.ofChange journalSaysSpec)

/-- ITS FALSE NEIGHBOUR: 'it returns false'. Refute it at one input. -/
def journalSaysWrong : ChangeSpec := { name := "journalSays", fn := fun _ => fun
  | [d1, d2] => { results := [.lit (.bool false)], args := [d1, d2] }
  | _ => none }
def JournalSaysWrongFalsely : Prop := journalSaysRow.holds Try.pinned (OpenSpec.ofChange journalSaysWrong)

/-- 'pinchcocklaw39.JournalBack': WHATEVER THE INPUT: true; the input reads as it did. -/
def journalBackSpec : ChangeSpec := { name := "journalBack", fn := fun _ => fun
  | [d1, d2] => { results := [.lit (.bool true)], args := [d1, d2] }
  | _ => none }
def journalBackRow : OpenClaim := { program := "ytcofnffoaiiboaa", sum := "a48a8e444006c01a29b75fdd2a91fbb8650dfa4f270e6662fdf49283141148ab", func := "pinchcock/pinchcocklaw39.JournalBack", spec := "journalBack", apart := false }
def JournalBackSaid : Prop := journalBackRow.holds Try.pinned (OpenSpec.ofChange journalBackSpec)

/-- ITS FALSE NEIGHBOUR: 'it returns false'. Refute it at one input. -/
def journalBackWrong : ChangeSpec := { name := "journalBack", fn := fun _ => fun
  | [d1, d2] => { results := [.lit (.bool false)], args := [d1, d2] }
  | _ => none }
def JournalBackWrongFalsely : Prop := journalBackRow.holds Try.pinned (OpenSpec.ofChange journalBackWrong)

/-- 'pinchcocklaw39.JournalFinds': WHATEVER THE INPUT: true; the input reads as it did. -/
def journalFindsSpec : ChangeSpec := { name := "journalFinds", fn := fun _ => fun
  | [d1, d2, d3] => { results := [.lit (.bool true)], args := [d1, d2, d3] }
  | _ => none }
def journalFindsRow : OpenClaim := { program := "ytcofnffoaiiboaa", sum := "a48a8e444006c01a29b75fdd2a91fbb8650dfa4f270e6662fdf49283141148ab", func := "pinchcock/pinchcocklaw39.JournalFinds", spec := "journalFinds", apart := false }
def JournalFindsSaid : Prop := journalFindsRow.holds Try.pinned (OpenSpec.ofChange journalFindsSpec)

/-- ITS FALSE NEIGHBOUR: 'it returns false'. Refute it at one input. -/
def journalFindsWrong : ChangeSpec := { name := "journalFinds", fn := fun _ => fun
  | [d1, d2, d3] => { results := [.lit (.bool false)], args := [d1, d2, d3] }
  | _ => none }
def JournalFindsWrongFalsely : Prop := journalFindsRow.holds Try.pinned (OpenSpec.ofChange journalFindsWrong)

/- THE SECOND FORM. 'bulk': how many values and letters a reading holds, each counted each time it is reached (what is shared counts as often as it is met; a slice's spare places count too). A statement '..UptoSaid' is the law's where the arguments, and the package variables that the reading takes, are together of bulk at most 1048576: NARROWER than '..Said'. Prove '..Said' where nothing that the law and all that it calls make is longer than what came in: it says more and counts as full. Else prove '..UptoSaid'. A law counts once. -/
mutual
def uptoBulk {H : Type} : DataW H → Nat
  | .lit (.string bytes) => bytes.length + 1
  | .lit _ => 1
  | .nil => 1
  | .ptr d => uptoBulk d + 1
  | .slice elems spare => uptoBulkAll elems + uptoBulkAll spare + 1
  | .agg parts => uptoBulkAll parts + 1
  | .iface _ d => uptoBulk d + 1
  | .map entries => uptoBulkEntries entries + 1
  | .held _ => 1
def uptoBulkAll {H : Type} : List (DataW H) → Nat
  | [] => 0
  | d :: r => uptoBulk d + uptoBulkAll r
def uptoBulkEntries {H : Type} : List (Lit × DataW H) → Nat
  | [] => 0
  | x :: r => uptoBulkEntry x + uptoBulkEntries r
def uptoBulkEntry {H : Type} : Lit × DataW H → Nat
  | (.string bytes, d) => bytes.length + uptoBulk d + 1
  | (_, d) => uptoBulk d + 1
 end
def uptoSmall : (H : Type) → List (DataW H) → Bool := fun _ ds => decide (uptoBulkAll ds ≤ 1048576)
def OpenSpec.upto (s : _root_.Go.ChangeSpec) : _root_.Go.OpenSpec := { _root_.Go.OpenSpec.ofChange s with cond := some uptoSmall }

/-- 'pinchcocklaw30.ControlSays', WHERE WHAT IT READS IS OF BULK AT MOST 1048576: true; the input reads as it did. -/
def controlSaysUptoRow : OpenClaim := { program := "ytcofnffoaiiboaa", sum := "a48a8e444006c01a29b75fdd2a91fbb8650dfa4f270e6662fdf49283141148ab", func := "pinchcock/pinchcocklaw30.ControlSays", spec := "controlSays", inPlace := ["math/bits.Add64"], unfollowed := true, recurses := true, named := ["math/bits.divideError", "math/bits.overflowError"], apart := false, narrowed := true }
def ControlSaysUptoSaid : Prop := controlSaysUptoRow.holds Try.pinned (OpenSpec.upto controlSaysSpec)

/-- 'pinchcocklaw30.ControlShuts', WHERE WHAT IT READS IS OF BULK AT MOST 1048576: true; the input reads as it did. -/
def controlShutsUptoRow : OpenClaim := { program := "ytcofnffoaiiboaa", sum := "a48a8e444006c01a29b75fdd2a91fbb8650dfa4f270e6662fdf49283141148ab", func := "pinchcock/pinchcocklaw30.ControlShuts", spec := "controlShuts", inPlace := ["math/bits.Add64"], unfollowed := true, recurses := true, named := ["math/bits.divideError", "math/bits.overflowError"], apart := false, narrowed := true }
def ControlShutsUptoSaid : Prop := controlShutsUptoRow.holds Try.pinned (OpenSpec.upto controlShutsSpec)

/-- 'pinchcocklaw30.ControlMore', WHERE WHAT IT READS IS OF BULK AT MOST 1048576: true; the input reads as it did. -/
def controlMoreUptoRow : OpenClaim := { program := "ytcofnffoaiiboaa", sum := "a48a8e444006c01a29b75fdd2a91fbb8650dfa4f270e6662fdf49283141148ab", func := "pinchcock/pinchcocklaw30.ControlMore", spec := "controlMore", inPlace := ["math/bits.Add64"], unfollowed := true, recurses := true, named := ["math/bits.divideError", "math/bits.overflowError"], apart := false, narrowed := true }
def ControlMoreUptoSaid : Prop := controlMoreUptoRow.holds Try.pinned (OpenSpec.upto controlMoreSpec)

/-- 'pinchcocklaw35.GuardLatches', WHERE WHAT IT READS IS OF BULK AT MOST 1048576: true; the input reads as it did. -/
def guardLatchesUptoRow : OpenClaim := { program := "ytcofnffoaiiboaa", sum := "a48a8e444006c01a29b75fdd2a91fbb8650dfa4f270e6662fdf49283141148ab", func := "pinchcock/pinchcocklaw35.GuardLatches", spec := "guardLatches", inPlace := ["math/bits.Add64"], unfollowed := true, recurses := true, named := ["math/bits.divideError", "math/bits.overflowError"], apart := false, narrowed := true }
def GuardLatchesUptoSaid : Prop := guardLatchesUptoRow.holds Try.pinned (OpenSpec.upto guardLatchesSpec)

/-- 'pinchcocklaw35.GuardFree', WHERE WHAT IT READS IS OF BULK AT MOST 1048576: true; the input reads as it did. -/
def guardFreeUptoRow : OpenClaim := { program := "ytcofnffoaiiboaa", sum := "a48a8e444006c01a29b75fdd2a91fbb8650dfa4f270e6662fdf49283141148ab", func := "pinchcock/pinchcocklaw35.GuardFree", spec := "guardFree", inPlace := ["math/bits.Add64"], unfollowed := true, recurses := true, named := ["math/bits.divideError", "math/bits.overflowError"], apart := false, narrowed := true }
def GuardFreeUptoSaid : Prop := guardFreeUptoRow.holds Try.pinned (OpenSpec.upto guardFreeSpec)

/-- 'pinchcocklaw35.GuardLoss', WHERE WHAT IT READS IS OF BULK AT MOST 1048576: true; the input reads as it did. -/
def guardLossUptoRow : OpenClaim := { program := "ytcofnffoaiiboaa", sum := "a48a8e444006c01a29b75fdd2a91fbb8650dfa4f270e6662fdf49283141148ab", func := "pinchcock/pinchcocklaw35.GuardLoss", spec := "guardLoss", inPlace := ["math/bits.Add64"], unfollowed := true, recurses := true, named := ["math/bits.divideError", "math/bits.overflowError"], apart := false, narrowed := true }
def GuardLossUptoSaid : Prop := guardLossUptoRow.holds Try.pinned (OpenSpec.upto guardLossSpec)

/-- 'pinchcocklaw39.JournalSays', WHERE WHAT IT READS IS OF BULK AT MOST 1048576: true; the input reads as it did. -/
def journalSaysUptoRow : OpenClaim := { program := "ytcofnffoaiiboaa", sum := "a48a8e444006c01a29b75fdd2a91fbb8650dfa4f270e6662fdf49283141148ab", func := "pinchcock/pinchcocklaw39.JournalSays", spec := "journalSays", apart := false, narrowed := true }
def JournalSaysUptoSaid : Prop := journalSaysUptoRow.holds Try.pinned (OpenSpec.upto journalSaysSpec)

/-- 'pinchcocklaw39.JournalBack', WHERE WHAT IT READS IS OF BULK AT MOST 1048576: true; the input reads as it did. -/
def journalBackUptoRow : OpenClaim := { program := "ytcofnffoaiiboaa", sum := "a48a8e444006c01a29b75fdd2a91fbb8650dfa4f270e6662fdf49283141148ab", func := "pinchcock/pinchcocklaw39.JournalBack", spec := "journalBack", apart := false, narrowed := true }
def JournalBackUptoSaid : Prop := journalBackUptoRow.holds Try.pinned (OpenSpec.upto journalBackSpec)

/-- 'pinchcocklaw39.JournalFinds', WHERE WHAT IT READS IS OF BULK AT MOST 1048576: true; the input reads as it did. -/
def journalFindsUptoRow : OpenClaim := { program := "ytcofnffoaiiboaa", sum := "a48a8e444006c01a29b75fdd2a91fbb8650dfa4f270e6662fdf49283141148ab", func := "pinchcock/pinchcocklaw39.JournalFinds", spec := "journalFinds", apart := false, narrowed := true }
def JournalFindsUptoSaid : Prop := journalFindsUptoRow.holds Try.pinned (OpenSpec.upto journalFindsSpec)

end Rows
end Go.Proofs.Ytcofnffoaiiboaa
