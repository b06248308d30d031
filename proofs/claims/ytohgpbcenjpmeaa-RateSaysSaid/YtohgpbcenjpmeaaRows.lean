/-
  No cell of these rows narrows 'for every input' (looked for: loops, veiled, ifaces, maps, wideKeys, modest, calm, conditions, laid).
  DERIVED. THE GIVEN ROWS OF THIS SEAT. 3 by the template 'for every input the law returns true; each argument reads behind the call as it read before'; 0 by the template 'total and deterministic' (their statements: YtohgpbcenjpmeaaTotals.lean).
  GIVEN WITH THE SEED: the statements are not yours to turn. If you find one false, say at which input.
  Laid BY PROGRAM, IN A SANDBOX (cutbox-rows.mjs): the forced cells as the released guide's own fill.sh prints them over the translation 4dcc13bf2fd58a19… (all of the seat's roots in one cut). By AI agents, Wed Nov 11 2026. No macro, syntax, notation, axiom, sorry.
-/
import Derived.Test.YtohgpbcenjpmeaaChecked
import GoSem.Claim
import GoSem.ClaimJoined
import GoSem.ClaimMapViews
import Derived.JoinedTies
import Derived.KernelRfl
namespace Go.Proofs.Ytohgpbcenjpmeaa
/- THE CELL 'sum', in the pinned program and in every row, IS THE sha256 OF THE DUMP (.gsa) THAT YtohgpbcenjpmeaaProg.lean LOADS. Nothing in Lean hashes anything: it is a label: what it is worth is what the hold of that sum in a sandbox is worth. -/
noncomputable def Try.pinned : Pinned := { name := "ytohgpbcenjpmeaa", sum := "4dcc13bf2fd58a193caa578ff72df0564a3878b2309acd7304889527658014aa", checked := Try.checked }
namespace Rows
def none {H : Type} : Left H := { results := [], args := [] }

/-- 'pinchcocklaw10.RateSays': WHATEVER THE INPUT: true; the input reads as it did. -/
def rateSaysSpec : ChangeSpec := { name := "rateSays", fn := fun _ => fun
  | [d1, d2] => { results := [.lit (.bool true)], args := [d1, d2] }
  | _ => none }
def rateSaysRow : OpenClaim := { program := "ytohgpbcenjpmeaa", sum := "4dcc13bf2fd58a193caa578ff72df0564a3878b2309acd7304889527658014aa", func := "pinchcock/pinchcocklaw10.RateSays", spec := "rateSays", apart := false }
def RateSaysSaid : Prop := rateSaysRow.holds Try.pinned (OpenSpec.ofChange rateSaysSpec)

/-- ITS FALSE NEIGHBOUR: 'it returns false'. Refute it at one input. -/
def rateSaysWrong : ChangeSpec := { name := "rateSays", fn := fun _ => fun
  | [d1, d2] => { results := [.lit (.bool false)], args := [d1, d2] }
  | _ => none }
def RateSaysWrongFalsely : Prop := rateSaysRow.holds Try.pinned (OpenSpec.ofChange rateSaysWrong)

/-- 'pinchcocklaw10.RateFalls': WHATEVER THE INPUT: true; the input reads as it did. -/
def rateFallsSpec : ChangeSpec := { name := "rateFalls", fn := fun _ => fun
  | [d1, d2] => { results := [.lit (.bool true)], args := [d1, d2] }
  | _ => none }
def rateFallsRow : OpenClaim := { program := "ytohgpbcenjpmeaa", sum := "4dcc13bf2fd58a193caa578ff72df0564a3878b2309acd7304889527658014aa", func := "pinchcock/pinchcocklaw10.RateFalls", spec := "rateFalls", apart := false }
def RateFallsSaid : Prop := rateFallsRow.holds Try.pinned (OpenSpec.ofChange rateFallsSpec)

/-- ITS FALSE NEIGHBOUR: 'it returns false'. Refute it at one input. -/
def rateFallsWrong : ChangeSpec := { name := "rateFalls", fn := fun _ => fun
  | [d1, d2] => { results := [.lit (.bool false)], args := [d1, d2] }
  | _ => none }
def RateFallsWrongFalsely : Prop := rateFallsRow.holds Try.pinned (OpenSpec.ofChange rateFallsWrong)

/-- 'pinchcocklaw10.RateBack': WHATEVER THE INPUT: true; the input reads as it did. -/
def rateBackSpec : ChangeSpec := { name := "rateBack", fn := fun _ => fun
  | [d1, d2, d3] => { results := [.lit (.bool true)], args := [d1, d2, d3] }
  | _ => none }
def rateBackRow : OpenClaim := { program := "ytohgpbcenjpmeaa", sum := "4dcc13bf2fd58a193caa578ff72df0564a3878b2309acd7304889527658014aa", func := "pinchcock/pinchcocklaw10.RateBack", spec := "rateBack", apart := false }
def RateBackSaid : Prop := rateBackRow.holds Try.pinned (OpenSpec.ofChange rateBackSpec)

/-- ITS FALSE NEIGHBOUR: 'it returns false'. Refute it at one input. -/
def rateBackWrong : ChangeSpec := { name := "rateBack", fn := fun _ => fun
  | [d1, d2, d3] => { results := [.lit (.bool false)], args := [d1, d2, d3] }
  | _ => none }
def RateBackWrongFalsely : Prop := rateBackRow.holds Try.pinned (OpenSpec.ofChange rateBackWrong)

/- THE SECOND FORM. 'bulk': how many values and letters a reading holds, each counted each time it is reached (what is shared counts as often as it is met; a slice's spare places count too). A statement '..UptoSaid' is the law's where the arguments, and the package variables that the reading takes, are together of bulk at most 1048576: NARROWER than '..Said'. Prove '..Said' where nothing that the law and all that it calls make is longer than what came in: it says more and counts as full. Else prove '..UptoSaid'. A law counts once. -/
mutual
def uptoBulk {H : Type} : DataW H → Nat
  | .lit (.string bytes) => bytes.length + 1
  | .lit _ => 1
  | .nil => 1
  | .ptr d => uptoBulk d + 1
  | .slice elems spare => uptoBulkAll elems + uptoBulkAll spare + 1
  | .agg parts => uptoBulkAll parts + 1
  | .iface _ d => uptoBulk d + 1
  | .map entries => uptoBulkEntries entries + 1
  | .held _ => 1
def uptoBulkAll {H : Type} : List (DataW H) → Nat
  | [] => 0
  | d :: r => uptoBulk d + uptoBulkAll r
def uptoBulkEntries {H : Type} : List (Lit × DataW H) → Nat
  | [] => 0
  | x :: r => uptoBulkEntry x + uptoBulkEntries r
def uptoBulkEntry {H : Type} : Lit × DataW H → Nat
  | (.string bytes, d) => bytes.length + uptoBulk d + 1
  | (_, d) => uptoBulk d + 1
 end
def uptoSmall : (H : Type) → List (DataW H) → Bool := fun _ ds => decide (uptoBulkAll ds ≤ 1048576)
def OpenSpec.upto (s : _root_.Go.ChangeSpec) : _root_.Go.OpenSpec := { _root_.Go.OpenSpec.ofChange s with cond := some uptoSmall }

/-- 'pinchcocklaw10.RateSays', WHERE WHAT IT READS IS OF BULK AT MOST 1048576: true; the input reads as it did. -/
def rateSaysUptoRow : OpenClaim := { program := "ytohgpbcenjpmeaa", sum := "4dcc13bf2fd58a193caa578ff72df0564a3878b2309acd7304889527658014aa", func := "pinchcock/pinchcocklaw10.RateSays", spec := "rateSays", apart := false, narrowed := true }
def RateSaysUptoSaid : Prop := rateSaysUptoRow.holds Try.pinned (OpenSpec.upto rateSaysSpec)

/-- 'pinchcocklaw10.RateFalls', WHERE WHAT IT READS IS OF BULK AT MOST 1048576: true; the input reads as it did. -/
def rateFallsUptoRow : OpenClaim := { program := "ytohgpbcenjpmeaa", sum := "4dcc13bf2fd58a193caa578ff72df0564a3878b2309acd7304889527658014aa", func := "pinchcock/pinchcocklaw10.RateFalls", spec := "rateFalls", apart := false, narrowed := true }
def RateFallsUptoSaid : Prop := rateFallsUptoRow.holds Try.pinned (OpenSpec.upto rateFallsSpec)

/-- 'pinchcocklaw10.RateBack', WHERE WHAT IT READS IS OF BULK AT MOST 1048576: true; the input reads as it did. -/
def rateBackUptoRow : OpenClaim := { program := "ytohgpbcenjpmeaa", sum := "4dcc13bf2fd58a193caa578ff72df0564a3878b2309acd7304889527658014aa", func := "pinchcock/pinchcocklaw10.RateBack", spec := "rateBack", apart := false, narrowed := true }
def RateBackUptoSaid : Prop := rateBackUptoRow.holds Try.pinned (OpenSpec.upto rateBackSpec)

end Rows
end Go.Proofs.Ytohgpbcenjpmeaa
