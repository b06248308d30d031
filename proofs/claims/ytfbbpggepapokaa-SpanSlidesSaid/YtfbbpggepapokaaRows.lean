/-
  No cell of these rows narrows 'for every input' (looked for: loops, veiled, ifaces, maps, wideKeys, modest, calm, conditions, laid).
  DERIVED. THE GIVEN ROWS OF THIS SEAT. 2 by the template 'for every input the law returns true; each argument reads behind the call as it read before'; 0 by the template 'total and deterministic' (their statements: YtfbbpggepapokaaTotals.lean).
  GIVEN WITH THE SEED: the statements are not yours to turn. If you find one false, say at which input.
  Laid BY PROGRAM, IN A SANDBOX (cutbox-rows.mjs): the forced cells as the released guide's own fill.sh prints them over the translation 18fa05bdf66e31d6… (all of the seat's roots in one cut). By AI agents, Wed Nov 11 2026. No macro, syntax, notation, axiom, sorry.
-/
import Derived.Test.YtfbbpggepapokaaChecked
import GoSem.Claim
import GoSem.ClaimJoined
import GoSem.ClaimMapViews
import Derived.JoinedTies
import Derived.KernelRfl
namespace Go.Proofs.Ytfbbpggepapokaa
/- THE CELL 'sum', in the pinned program and in every row, IS THE sha256 OF THE DUMP (.gsa) THAT YtfbbpggepapokaaProg.lean LOADS. Nothing in Lean hashes anything: it is a label: what it is worth is what the hold of that sum in a sandbox is worth. -/
noncomputable def Try.pinned : Pinned := { name := "ytfbbpggepapokaa", sum := "18fa05bdf66e31d68752917d8b383ffd7efea642fc7838e0b7f74d35ae41b35a", checked := Try.checked }
namespace Rows
def none {H : Type} : Left H := { results := [], args := [] }

/-- 'pinchcocklaw05.SpanEnough': WHATEVER THE INPUT: true; the input reads as it did. -/
def spanEnoughSpec : ChangeSpec := { name := "spanEnough", fn := fun _ => fun
  | [d1, d2, d3] => { results := [.lit (.bool true)], args := [d1, d2, d3] }
  | _ => none }
def spanEnoughRow : OpenClaim := { program := "ytfbbpggepapokaa", sum := "18fa05bdf66e31d68752917d8b383ffd7efea642fc7838e0b7f74d35ae41b35a", func := "pinchcock/pinchcocklaw05.SpanEnough", spec := "spanEnough", apart := false }
def SpanEnoughSaid : Prop := spanEnoughRow.holds Try.pinned (OpenSpec.ofChange spanEnoughSpec)

/-- ITS FALSE NEIGHBOUR: 'it returns false'. Refute it at one input. -/
def spanEnoughWrong : ChangeSpec := { name := "spanEnough", fn := fun _ => fun
  | [d1, d2, d3] => { results := [.lit (.bool false)], args := [d1, d2, d3] }
  | _ => none }
def SpanEnoughWrongFalsely : Prop := spanEnoughRow.holds Try.pinned (OpenSpec.ofChange spanEnoughWrong)

/-- 'pinchcocklaw05.SpanSlides': WHATEVER THE INPUT: true; the input reads as it did. -/
def spanSlidesSpec : ChangeSpec := { name := "spanSlides", fn := fun _ => fun
  | [d1, d2, d3] => { results := [.lit (.bool true)], args := [d1, d2, d3] }
  | _ => none }
def spanSlidesRow : OpenClaim := { program := "ytfbbpggepapokaa", sum := "18fa05bdf66e31d68752917d8b383ffd7efea642fc7838e0b7f74d35ae41b35a", func := "pinchcock/pinchcocklaw05.SpanSlides", spec := "spanSlides", apart := false }
def SpanSlidesSaid : Prop := spanSlidesRow.holds Try.pinned (OpenSpec.ofChange spanSlidesSpec)

/-- ITS FALSE NEIGHBOUR: 'it returns false'. Refute it at one input. -/
def spanSlidesWrong : ChangeSpec := { name := "spanSlides", fn := fun _ => fun
  | [d1, d2, d3] => { results := [.lit (.bool false)], args := [d1, d2, d3] }
  | _ => none }
def SpanSlidesWrongFalsely : Prop := spanSlidesRow.holds Try.pinned (OpenSpec.ofChange spanSlidesWrong)

/- THE SECOND FORM. 'bulk': how many values and letters a reading holds, each counted each time it is reached (what is shared counts as often as it is met; a slice's spare places count too). A statement '..UptoSaid' is the law's where the arguments, and the package variables that the reading takes, are together of bulk at most 1048576: NARROWER than '..Said'. Prove '..Said' where nothing that the law and all that it calls make is longer than what came in: it says more and counts as full. Else prove '..UptoSaid'. A law counts once. -/
mutual
def uptoBulk {H : Type} : DataW H → Nat
  | .lit (.string bytes) => bytes.length + 1
  | .lit _ => 1
  | .nil => 1
  | .ptr d => uptoBulk d + 1
  | .slice elems spare => uptoBulkAll elems + uptoBulkAll spare + 1
  | .agg parts => uptoBulkAll parts + 1
  | .iface _ d => uptoBulk d + 1
  | .map entries => uptoBulkEntries entries + 1
  | .held _ => 1
def uptoBulkAll {H : Type} : List (DataW H) → Nat
  | [] => 0
  | d :: r => uptoBulk d + uptoBulkAll r
def uptoBulkEntries {H : Type} : List (Lit × DataW H) → Nat
  | [] => 0
  | x :: r => uptoBulkEntry x + uptoBulkEntries r
def uptoBulkEntry {H : Type} : Lit × DataW H → Nat
  | (.string bytes, d) => bytes.length + uptoBulk d + 1
  | (_, d) => uptoBulk d + 1
 end
def uptoSmall : (H : Type) → List (DataW H) → Bool := fun _ ds => decide (uptoBulkAll ds ≤ 1048576)
def OpenSpec.upto (s : _root_.Go.ChangeSpec) : _root_.Go.OpenSpec := { _root_.Go.OpenSpec.ofChange s with cond := some uptoSmall }

/-- 'pinchcocklaw05.SpanEnough', WHERE WHAT IT READS IS OF BULK AT MOST 1048576: true; the input reads as it did. -/
def spanEnoughUptoRow : OpenClaim := { program := "ytfbbpggepapokaa", sum := "18fa05bdf66e31d68752917d8b383ffd7efea642fc7838e0b7f74d35ae41b35a", func := "pinchcock/pinchcocklaw05.SpanEnough", spec := "spanEnough", apart := false, narrowed := true }
def SpanEnoughUptoSaid : Prop := spanEnoughUptoRow.holds Try.pinned (OpenSpec.upto spanEnoughSpec)

/-- 'pinchcocklaw05.SpanSlides', WHERE WHAT IT READS IS OF BULK AT MOST 1048576: true; the input reads as it did. -/
def spanSlidesUptoRow : OpenClaim := { program := "ytfbbpggepapokaa", sum := "18fa05bdf66e31d68752917d8b383ffd7efea642fc7838e0b7f74d35ae41b35a", func := "pinchcock/pinchcocklaw05.SpanSlides", spec := "spanSlides", apart := false, narrowed := true }
def SpanSlidesUptoSaid : Prop := spanSlidesUptoRow.holds Try.pinned (OpenSpec.upto spanSlidesSpec)

end Rows
end Go.Proofs.Ytfbbpggepapokaa
