/-
  No cell of these rows narrows 'for every input' (looked for: loops, veiled, ifaces, maps, wideKeys, modest, calm, conditions, laid).
  DERIVED. THE GIVEN ROWS OF THIS SEAT. 3 by the template 'for every input the law returns true; each argument reads behind the call as it read before'; 0 by the template 'total and deterministic' (their statements: YteminppmegmjoaaTotals.lean).
  GIVEN WITH THE SEED: the statements are not yours to turn. If you find one false, say at which input.
  Laid BY PROGRAM, IN A SANDBOX (cutbox-rows.mjs): the forced cells as the released guide's own fill.sh prints them over the translation fbfc6fd3e004ed07… (all of the seat's roots in one cut). By AI agents, Wed Nov 11 2026. No macro, syntax, notation, axiom, sorry.
-/
import Derived.Test.YteminppmegmjoaaChecked
import GoSem.Claim
import GoSem.ClaimJoined
import GoSem.ClaimMapViews
import Derived.JoinedTies
import Derived.KernelRfl
namespace Go.Proofs.Yteminppmegmjoaa
/- THE CELL 'sum', in the pinned program and in every row, IS THE sha256 OF THE DUMP (.gsa) THAT YteminppmegmjoaaProg.lean LOADS. Nothing in Lean hashes anything: it is a label: what it is worth is what the hold of that sum in a sandbox is worth. -/
noncomputable def Try.pinned : Pinned := { name := "yteminppmegmjoaa", sum := "fbfc6fd3e004ed07ce2d4ec4cfb4583ad76e055a92915039746c1651c2e74571", checked := Try.checked }
namespace Rows
def none {H : Type} : Left H := { results := [], args := [] }

/-- 'pinchcocklaw18.DebounceSays': WHATEVER THE INPUT: true; the input reads as it did. -/
def debounceSaysSpec : ChangeSpec := { name := "debounceSays", fn := fun _ => fun
  | [d1, d2] => { results := [.lit (.bool true)], args := [d1, d2] }
  | _ => none }
def debounceSaysRow : OpenClaim := { program := "yteminppmegmjoaa", sum := "fbfc6fd3e004ed07ce2d4ec4cfb4583ad76e055a92915039746c1651c2e74571", func := "pinchcock/pinchcocklaw18.DebounceSays", spec := "debounceSays", apart := false }
def DebounceSaysSaid : Prop := debounceSaysRow.holds Try.pinned (OpenSpec.ofChange debounceSaysSpec)

/-- ITS FALSE NEIGHBOUR: 'it returns false'. Refute it at one input. -/
def debounceSaysWrong : ChangeSpec := { name := "debounceSays", fn := fun _ => fun
  | [d1, d2] => { results := [.lit (.bool false)], args := [d1, d2] }
  | _ => none }
def DebounceSaysWrongFalsely : Prop := debounceSaysRow.holds Try.pinned (OpenSpec.ofChange debounceSaysWrong)

/-- 'pinchcocklaw18.DebounceTwice': WHATEVER THE INPUT: true; the input reads as it did. -/
def debounceTwiceSpec : ChangeSpec := { name := "debounceTwice", fn := fun _ => fun
  | [d] => { results := [.lit (.bool true)], args := [d] }
  | _ => none }
def debounceTwiceRow : OpenClaim := { program := "yteminppmegmjoaa", sum := "fbfc6fd3e004ed07ce2d4ec4cfb4583ad76e055a92915039746c1651c2e74571", func := "pinchcock/pinchcocklaw18.DebounceTwice", spec := "debounceTwice", apart := false }
def DebounceTwiceSaid : Prop := debounceTwiceRow.holds Try.pinned (OpenSpec.ofChange debounceTwiceSpec)

/-- ITS FALSE NEIGHBOUR: 'it returns false'. Refute it at one input. -/
def debounceTwiceWrong : ChangeSpec := { name := "debounceTwice", fn := fun _ => fun
  | [d] => { results := [.lit (.bool false)], args := [d] }
  | _ => none }
def DebounceTwiceWrongFalsely : Prop := debounceTwiceRow.holds Try.pinned (OpenSpec.ofChange debounceTwiceWrong)

/-- 'pinchcocklaw18.DebounceGlitch': WHATEVER THE INPUT: true; the input reads as it did. -/
def debounceGlitchSpec : ChangeSpec := { name := "debounceGlitch", fn := fun _ => fun
  | [d1, d2, d3] => { results := [.lit (.bool true)], args := [d1, d2, d3] }
  | _ => none }
def debounceGlitchRow : OpenClaim := { program := "yteminppmegmjoaa", sum := "fbfc6fd3e004ed07ce2d4ec4cfb4583ad76e055a92915039746c1651c2e74571", func := "pinchcock/pinchcocklaw18.DebounceGlitch", spec := "debounceGlitch", apart := false }
def DebounceGlitchSaid : Prop := debounceGlitchRow.holds Try.pinned (OpenSpec.ofChange debounceGlitchSpec)

/-- ITS FALSE NEIGHBOUR: 'it returns false'. Refute it at one input. -/
def debounceGlitchWrong : ChangeSpec := { name := "debounceGlitch", fn := fun _ => fun
  | [d1, d2, d3] => { results := [.lit (.bool false)], args := [d1, d2, d3] }
  | _ => none }
def DebounceGlitchWrongFalsely : Prop := debounceGlitchRow.holds Try.pinned (OpenSpec.ofChange debounceGlitchWrong)

/- THE SECOND FORM. 'bulk': how many values and letters a reading holds, each counted each time it is reached (what is shared counts as often as it is met; a slice's spare places count too). A statement '..UptoSaid' is the law's where the arguments, and the package variables that the reading takes, are together of bulk at most 1048576: NARROWER than '..Said'. Prove '..Said' where nothing that the law and all that it calls make is longer than what came in: it says more and counts as full. Else prove '..UptoSaid'. A law counts once. -/
mutual
def uptoBulk {H : Type} : DataW H → Nat
  | .lit (.string bytes) => bytes.length + 1
  | .lit _ => 1
  | .nil => 1
  | .ptr d => uptoBulk d + 1
  | .slice elems spare => uptoBulkAll elems + uptoBulkAll spare + 1
  | .agg parts => uptoBulkAll parts + 1
  | .iface _ d => uptoBulk d + 1
  | .map entries => uptoBulkEntries entries + 1
  | .held _ => 1
def uptoBulkAll {H : Type} : List (DataW H) → Nat
  | [] => 0
  | d :: r => uptoBulk d + uptoBulkAll r
def uptoBulkEntries {H : Type} : List (Lit × DataW H) → Nat
  | [] => 0
  | x :: r => uptoBulkEntry x + uptoBulkEntries r
def uptoBulkEntry {H : Type} : Lit × DataW H → Nat
  | (.string bytes, d) => bytes.length + uptoBulk d + 1
  | (_, d) => uptoBulk d + 1
 end
def uptoSmall : (H : Type) → List (DataW H) → Bool := fun _ ds => decide (uptoBulkAll ds ≤ 1048576)
def OpenSpec.upto (s : _root_.Go.ChangeSpec) : _root_.Go.OpenSpec := { _root_.Go.OpenSpec.ofChange s with cond := some uptoSmall }

/-- 'pinchcocklaw18.DebounceSays', WHERE WHAT IT READS IS OF BULK AT MOST 1048576: true; the input reads as it did. -/
def debounceSaysUptoRow : OpenClaim := { program := "yteminppmegmjoaa", sum := "fbfc6fd3e004ed07ce2d4ec4cfb4583ad76e055a92915039746c1651c2e74571", func := "pinchcock/pinchcocklaw18.DebounceSays", spec := "debounceSays", apart := false, narrowed := true }
def DebounceSaysUptoSaid : Prop := debounceSaysUptoRow.holds Try.pinned (OpenSpec.upto debounceSaysSpec)

/-- 'pinchcocklaw18.DebounceTwice', WHERE WHAT IT READS IS OF BULK AT MOST 1048576: true; the input reads as it did. -/
def debounceTwiceUptoRow : OpenClaim := { program := "yteminppmegmjoaa", sum := "fbfc6fd3e004ed07ce2d4ec4cfb4583ad76e055a92915039746c1651c2e74571", func := "pinchcock/pinchcocklaw18.DebounceTwice", spec := "debounceTwice", apart := false, narrowed := true }
def DebounceTwiceUptoSaid : Prop := debounceTwiceUptoRow.holds Try.pinned (OpenSpec.upto debounceTwiceSpec)

/-- 'pinchcocklaw18.DebounceGlitch', WHERE WHAT IT READS IS OF BULK AT MOST 1048576: true; the input reads as it did. -/
def debounceGlitchUptoRow : OpenClaim := { program := "yteminppmegmjoaa", sum := "fbfc6fd3e004ed07ce2d4ec4cfb4583ad76e055a92915039746c1651c2e74571", func := "pinchcock/pinchcocklaw18.DebounceGlitch", spec := "debounceGlitch", apart := false, narrowed := true }
def DebounceGlitchUptoSaid : Prop := debounceGlitchUptoRow.holds Try.pinned (OpenSpec.upto debounceGlitchSpec)

end Rows
end Go.Proofs.Yteminppmegmjoaa
