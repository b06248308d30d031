/-
  No cell of these rows narrows 'for every input' (looked for: loops, veiled, ifaces, maps, wideKeys, modest, calm, conditions, laid).
  DERIVED. THE GIVEN ROWS OF THIS SEAT. 9 by the template 'for every input the law returns true; each argument reads behind the call as it read before'; 0 by the template 'total and deterministic' (their statements: YthijabhnmjbboaaTotals.lean).
  GIVEN WITH THE SEED: the statements are not yours to turn. If you find one false, say at which input.
  Laid BY PROGRAM, IN A SANDBOX (cutbox-rows.mjs): the forced cells as the released guide's own fill.sh prints them over the translation 61534e86048f552e… (all of the seat's roots in one cut). By AI agents, Wed Nov 11 2026. No macro, syntax, notation, axiom, sorry.
-/
import Derived.Test.YthijabhnmjbboaaChecked
import GoSem.Claim
import GoSem.ClaimJoined
import GoSem.ClaimMapViews
import Derived.JoinedTies
import Derived.KernelRfl
namespace Go.Proofs.Ythijabhnmjbboaa
/- THE CELL 'sum', in the pinned program and in every row, IS THE sha256 OF THE DUMP (.gsa) THAT YthijabhnmjbboaaProg.lean LOADS. Nothing in Lean hashes anything: it is a label: what it is worth is what the hold of that sum in a sandbox is worth. -/
noncomputable def Try.pinned : Pinned := { name := "ythijabhnmjbboaa", sum := "61534e86048f552e3ca4ccc6ba5cd5d110b1b8cdf592cfb6e37fa67edaac30b9", checked := Try.checked }
namespace Rows
def none {H : Type} : Left H := { results := [], args := [] }

/-- 'pinchcocklaw51.VarintSays': WHATEVER THE INPUT: true; the input reads as it did. -/
def varintSaysSpec : ChangeSpec := { name := "varintSays", fn := fun _ => fun
  | [d1, d2, d3] => { results := [.lit (.bool true)], args := [d1, d2, d3] }
  | _ => none }
def varintSaysRow : OpenClaim := { program := "ythijabhnmjbboaa", sum := "61534e86048f552e3ca4ccc6ba5cd5d110b1b8cdf592cfb6e37fa67edaac30b9", func := "pinchcock/pinchcocklaw51.VarintSays", spec := "varintSays", apart := false }
def VarintSaysSaid : Prop := varintSaysRow.holds Try.pinned (OpenSpec.ofChange varintSaysSpec)

/-- ITS FALSE NEIGHBOUR: 'it returns false'. Refute it at one input. -/
def varintSaysWrong : ChangeSpec := { name := "varintSays", fn := fun _ => fun
  | [d1, d2, d3] => { results := [.lit (.bool false)], args := [d1, d2, d3] }
  | _ => none }
def VarintSaysWrongFalsely : Prop := varintSaysRow.holds Try.pinned (OpenSpec.ofChange varintSaysWrong)

/-- 'pinchcocklaw51.VarintBack': WHATEVER THE INPUT: true; the input reads as it did. -/
def varintBackSpec : ChangeSpec := { name := "varintBack", fn := fun _ => fun
  | [d1, d2, d3] => { results := [.lit (.bool true)], args := [d1, d2, d3] }
  | _ => none }
def varintBackRow : OpenClaim := { program := "ythijabhnmjbboaa", sum := "61534e86048f552e3ca4ccc6ba5cd5d110b1b8cdf592cfb6e37fa67edaac30b9", func := "pinchcock/pinchcocklaw51.VarintBack", spec := "varintBack", apart := false }
def VarintBackSaid : Prop := varintBackRow.holds Try.pinned (OpenSpec.ofChange varintBackSpec)

/-- ITS FALSE NEIGHBOUR: 'it returns false'. Refute it at one input. -/
def varintBackWrong : ChangeSpec := { name := "varintBack", fn := fun _ => fun
  | [d1, d2, d3] => { results := [.lit (.bool false)], args := [d1, d2, d3] }
  | _ => none }
def VarintBackWrongFalsely : Prop := varintBackRow.holds Try.pinned (OpenSpec.ofChange varintBackWrong)

/-- 'pinchcocklaw51.VarintRises': WHATEVER THE INPUT: true; the input reads as it did. -/
def varintRisesSpec : ChangeSpec := { name := "varintRises", fn := fun _ => fun
  | [d1, d2] => { results := [.lit (.bool true)], args := [d1, d2] }
  | _ => none }
def varintRisesRow : OpenClaim := { program := "ythijabhnmjbboaa", sum := "61534e86048f552e3ca4ccc6ba5cd5d110b1b8cdf592cfb6e37fa67edaac30b9", func := "pinchcock/pinchcocklaw51.VarintRises", spec := "varintRises", apart := false }
def VarintRisesSaid : Prop := varintRisesRow.holds Try.pinned (OpenSpec.ofChange varintRisesSpec)

/-- ITS FALSE NEIGHBOUR: 'it returns false'. Refute it at one input. -/
def varintRisesWrong : ChangeSpec := { name := "varintRises", fn := fun _ => fun
  | [d1, d2] => { results := [.lit (.bool false)], args := [d1, d2] }
  | _ => none }
def VarintRisesWrongFalsely : Prop := varintRisesRow.holds Try.pinned (OpenSpec.ofChange varintRisesWrong)

/-- 'pinchcocklaw48.PlantSays': WHATEVER THE INPUT: true; the input reads as it did. -/
def plantSaysSpec : ChangeSpec := { name := "plantSays", fn := fun _ => fun
  | [d1, d2] => { results := [.lit (.bool true)], args := [d1, d2] }
  | _ => none }
def plantSaysRow : OpenClaim := { program := "ythijabhnmjbboaa", sum := "61534e86048f552e3ca4ccc6ba5cd5d110b1b8cdf592cfb6e37fa67edaac30b9", func := "pinchcock/pinchcocklaw48.PlantSays", spec := "plantSays", apart := false }
def PlantSaysSaid : Prop := plantSaysRow.holds Try.pinned (OpenSpec.ofChange plantSaysSpec)

/-- ITS FALSE NEIGHBOUR: 'it returns false'. Refute it at one input. -/
def plantSaysWrong : ChangeSpec := { name := "plantSays", fn := fun _ => fun
  | [d1, d2] => { results := [.lit (.bool false)], args := [d1, d2] }
  | _ => none }
def PlantSaysWrongFalsely : Prop := plantSaysRow.holds Try.pinned (OpenSpec.ofChange plantSaysWrong)

/-- 'pinchcocklaw48.PlantKeeps': WHATEVER THE INPUT: true; the input reads as it did. -/
def plantKeepsSpec : ChangeSpec := { name := "plantKeeps", fn := fun _ => fun
  | [d1, d2, d3] => { results := [.lit (.bool true)], args := [d1, d2, d3] }
  | _ => none }
def plantKeepsRow : OpenClaim := { program := "ythijabhnmjbboaa", sum := "61534e86048f552e3ca4ccc6ba5cd5d110b1b8cdf592cfb6e37fa67edaac30b9", func := "pinchcock/pinchcocklaw48.PlantKeeps", spec := "plantKeeps", apart := false }
def PlantKeepsSaid : Prop := plantKeepsRow.holds Try.pinned (OpenSpec.ofChange plantKeepsSpec)

/-- ITS FALSE NEIGHBOUR: 'it returns false'. Refute it at one input. -/
def plantKeepsWrong : ChangeSpec := { name := "plantKeeps", fn := fun _ => fun
  | [d1, d2, d3] => { results := [.lit (.bool false)], args := [d1, d2, d3] }
  | _ => none }
def PlantKeepsWrongFalsely : Prop := plantKeepsRow.holds Try.pinned (OpenSpec.ofChange plantKeepsWrong)

/-- 'pinchcocklaw54.TrendSays': WHATEVER THE INPUT: true; the input reads as it did. -/
def trendSaysSpec : ChangeSpec := { name := "trendSays", fn := fun _ => fun
  | [d1, d2] => { results := [.lit (.bool true)], args := [d1, d2] }
  | _ => none }
def trendSaysRow : OpenClaim := { program := "ythijabhnmjbboaa", sum := "61534e86048f552e3ca4ccc6ba5cd5d110b1b8cdf592cfb6e37fa67edaac30b9", func := "pinchcock/pinchcocklaw54.TrendSays", spec := "trendSays", unfollowed := true, recurses := true, apart := false }
def TrendSaysSaid : Prop := trendSaysRow.holds Try.pinned (OpenSpec.ofChange trendSaysSpec)

/-- ITS FALSE NEIGHBOUR: 'it returns false'. Refute it at one input. -/
def trendSaysWrong : ChangeSpec := { name := "trendSays", fn := fun _ => fun
  | [d1, d2] => { results := [.lit (.bool false)], args := [d1, d2] }
  | _ => none }
def TrendSaysWrongFalsely : Prop := trendSaysRow.holds Try.pinned (OpenSpec.ofChange trendSaysWrong)

/-- 'pinchcocklaw38.TitrateSays': WHATEVER THE INPUT: true; the input reads as it did. -/
def titrateSaysSpec : ChangeSpec := { name := "titrateSays", fn := fun _ => fun
  | [d1, d2] => { results := [.lit (.bool true)], args := [d1, d2] }
  | _ => none }
def titrateSaysRow : OpenClaim := { program := "ythijabhnmjbboaa", sum := "61534e86048f552e3ca4ccc6ba5cd5d110b1b8cdf592cfb6e37fa67edaac30b9", func := "pinchcock/pinchcocklaw38.TitrateSays", spec := "titrateSays", apart := false }
def TitrateSaysSaid : Prop := titrateSaysRow.holds Try.pinned (OpenSpec.ofChange titrateSaysSpec)

/-- ITS FALSE NEIGHBOUR: 'it returns false'. Refute it at one input. -/
def titrateSaysWrong : ChangeSpec := { name := "titrateSays", fn := fun _ => fun
  | [d1, d2] => { results := [.lit (.bool false)], args := [d1, d2] }
  | _ => none }
def TitrateSaysWrongFalsely : Prop := titrateSaysRow.holds Try.pinned (OpenSpec.ofChange titrateSaysWrong)

/-- 'pinchcocklaw38.TitrateLeads': WHATEVER THE INPUT: true; the input reads as it did. -/
def titrateLeadsSpec : ChangeSpec := { name := "titrateLeads", fn := fun _ => fun
  | [d1, d2] => { results := [.lit (.bool true)], args := [d1, d2] }
  | _ => none }
def titrateLeadsRow : OpenClaim := { program := "ythijabhnmjbboaa", sum := "61534e86048f552e3ca4ccc6ba5cd5d110b1b8cdf592cfb6e37fa67edaac30b9", func := "pinchcock/pinchcocklaw38.TitrateLeads", spec := "titrateLeads", apart := false }
def TitrateLeadsSaid : Prop := titrateLeadsRow.holds Try.pinned (OpenSpec.ofChange titrateLeadsSpec)

/-- ITS FALSE NEIGHBOUR: 'it returns false'. Refute it at one input. -/
def titrateLeadsWrong : ChangeSpec := { name := "titrateLeads", fn := fun _ => fun
  | [d1, d2] => { results := [.lit (.bool false)], args := [d1, d2] }
  | _ => none }
def TitrateLeadsWrongFalsely : Prop := titrateLeadsRow.holds Try.pinned (OpenSpec.ofChange titrateLeadsWrong)

/-- 'pinchcocklaw38.TitrateTurns': WHATEVER THE INPUT: true; the input reads as it did. -/
def titrateTurnsSpec : ChangeSpec := { name := "titrateTurns", fn := fun _ => fun
  | [d1, d2] => { results := [.lit (.bool true)], args := [d1, d2] }
  | _ => none }
def titrateTurnsRow : OpenClaim := { program := "ythijabhnmjbboaa", sum := "61534e86048f552e3ca4ccc6ba5cd5d110b1b8cdf592cfb6e37fa67edaac30b9", func := "pinchcock/pinchcocklaw38.TitrateTurns", spec := "titrateTurns", apart := false }
def TitrateTurnsSaid : Prop := titrateTurnsRow.holds Try.pinned (OpenSpec.ofChange titrateTurnsSpec)

/-- ITS FALSE NEIGHBOUR: 'it returns false'. Refute it at one input. -/
def titrateTurnsWrong : ChangeSpec := { name := "titrateTurns", fn := fun _ => fun
  | [d1, d2] => { results := [.lit (.bool false)], args := [d1, d2] }
  | _ => none }
def TitrateTurnsWrongFalsely : Prop := titrateTurnsRow.holds Try.pinned (OpenSpec.ofChange titrateTurnsWrong)

/- THE SECOND FORM. 'bulk': how many values and letters a reading holds, each counted each time it is reached (what is shared counts as often as it is met; a slice's spare places count too). A statement '..UptoSaid' is the law's where the arguments, and the package variables that the reading takes, are together of bulk at most 1048576: NARROWER than '..Said'. Prove '..Said' where nothing that the law and all that it calls make is longer than what came in: it says more and counts as full. Else prove '..UptoSaid'. A law counts once. -/
mutual
def uptoBulk {H : Type} : DataW H → Nat
  | .lit (.string bytes) => bytes.length + 1
  | .lit _ => 1
  | .nil => 1
  | .ptr d => uptoBulk d + 1
  | .slice elems spare => uptoBulkAll elems + uptoBulkAll spare + 1
  | .agg parts => uptoBulkAll parts + 1
  | .iface _ d => uptoBulk d + 1
  | .map entries => uptoBulkEntries entries + 1
  | .held _ => 1
def uptoBulkAll {H : Type} : List (DataW H) → Nat
  | [] => 0
  | d :: r => uptoBulk d + uptoBulkAll r
def uptoBulkEntries {H : Type} : List (Lit × DataW H) → Nat
  | [] => 0
  | x :: r => uptoBulkEntry x + uptoBulkEntries r
def uptoBulkEntry {H : Type} : Lit × DataW H → Nat
  | (.string bytes, d) => bytes.length + uptoBulk d + 1
  | (_, d) => uptoBulk d + 1
 end
def uptoSmall : (H : Type) → List (DataW H) → Bool := fun _ ds => decide (uptoBulkAll ds ≤ 1048576)
def OpenSpec.upto (s : _root_.Go.ChangeSpec) : _root_.Go.OpenSpec := { _root_.Go.OpenSpec.ofChange s with cond := some uptoSmall }

/-- 'pinchcocklaw51.VarintSays', WHERE WHAT IT READS IS OF BULK AT MOST 1048576: true; the input reads as it did. -/
def varintSaysUptoRow : OpenClaim := { program := "ythijabhnmjbboaa", sum := "61534e86048f552e3ca4ccc6ba5cd5d110b1b8cdf592cfb6e37fa67edaac30b9", func := "pinchcock/pinchcocklaw51.VarintSays", spec := "varintSays", apart := false, narrowed := true }
def VarintSaysUptoSaid : Prop := varintSaysUptoRow.holds Try.pinned (OpenSpec.upto varintSaysSpec)

/-- 'pinchcocklaw51.VarintBack', WHERE WHAT IT READS IS OF BULK AT MOST 1048576: true; the input reads as it did. -/
def varintBackUptoRow : OpenClaim := { program := "ythijabhnmjbboaa", sum := "61534e86048f552e3ca4ccc6ba5cd5d110b1b8cdf592cfb6e37fa67edaac30b9", func := "pinchcock/pinchcocklaw51.VarintBack", spec := "varintBack", apart := false, narrowed := true }
def VarintBackUptoSaid : Prop := varintBackUptoRow.holds Try.pinned (OpenSpec.upto varintBackSpec)

/-- 'pinchcocklaw51.VarintRises', WHERE WHAT IT READS IS OF BULK AT MOST 1048576: true; the input reads as it did. -/
def varintRisesUptoRow : OpenClaim := { program := "ythijabhnmjbboaa", sum := "61534e86048f552e3ca4ccc6ba5cd5d110b1b8cdf592cfb6e37fa67edaac30b9", func := "pinchcock/pinchcocklaw51.VarintRises", spec := "varintRises", apart := false, narrowed := true }
def VarintRisesUptoSaid : Prop := varintRisesUptoRow.holds Try.pinned (OpenSpec.upto varintRisesSpec)

/-- 'pinchcocklaw48.PlantSays', WHERE WHAT IT READS IS OF BULK AT MOST 1048576: true; the input reads as it did. -/
def plantSaysUptoRow : OpenClaim := { program := "ythijabhnmjbboaa", sum := "61534e86048f552e3ca4ccc6ba5cd5d110b1b8cdf592cfb6e37fa67edaac30b9", func := "pinchcock/pinchcocklaw48.PlantSays", spec := "plantSays", apart := false, narrowed := true }
def PlantSaysUptoSaid : Prop := plantSaysUptoRow.holds Try.pinned (OpenSpec.upto plantSaysSpec)

/-- 'pinchcocklaw48.PlantKeeps', WHERE WHAT IT READS IS OF BULK AT MOST 1048576: true; the input reads as it did. -/
def plantKeepsUptoRow : OpenClaim := { program := "ythijabhnmjbboaa", sum := "61534e86048f552e3ca4ccc6ba5cd5d110b1b8cdf592cfb6e37fa67edaac30b9", func := "pinchcock/pinchcocklaw48.PlantKeeps", spec := "plantKeeps", apart := false, narrowed := true }
def PlantKeepsUptoSaid : Prop := plantKeepsUptoRow.holds Try.pinned (OpenSpec.upto plantKeepsSpec)

/-- 'pinchcocklaw54.TrendSays', WHERE WHAT IT READS IS OF BULK AT MOST 1048576: true; the input reads as it did. -/
def trendSaysUptoRow : OpenClaim := { program := "ythijabhnmjbboaa", sum := "61534e86048f552e3ca4ccc6ba5cd5d110b1b8cdf592cfb6e37fa67edaac30b9", func := "pinchcock/pinchcocklaw54.TrendSays", spec := "trendSays", unfollowed := true, recurses := true, apart := false, narrowed := true }
def TrendSaysUptoSaid : Prop := trendSaysUptoRow.holds Try.pinned (OpenSpec.upto trendSaysSpec)

/-- 'pinchcocklaw38.TitrateSays', WHERE WHAT IT READS IS OF BULK AT MOST 1048576: true; the input reads as it did. -/
def titrateSaysUptoRow : OpenClaim := { program := "ythijabhnmjbboaa", sum := "61534e86048f552e3ca4ccc6ba5cd5d110b1b8cdf592cfb6e37fa67edaac30b9", func := "pinchcock/pinchcocklaw38.TitrateSays", spec := "titrateSays", apart := false, narrowed := true }
def TitrateSaysUptoSaid : Prop := titrateSaysUptoRow.holds Try.pinned (OpenSpec.upto titrateSaysSpec)

/-- 'pinchcocklaw38.TitrateLeads', WHERE WHAT IT READS IS OF BULK AT MOST 1048576: true; the input reads as it did. -/
def titrateLeadsUptoRow : OpenClaim := { program := "ythijabhnmjbboaa", sum := "61534e86048f552e3ca4ccc6ba5cd5d110b1b8cdf592cfb6e37fa67edaac30b9", func := "pinchcock/pinchcocklaw38.TitrateLeads", spec := "titrateLeads", apart := false, narrowed := true }
def TitrateLeadsUptoSaid : Prop := titrateLeadsUptoRow.holds Try.pinned (OpenSpec.upto titrateLeadsSpec)

/-- 'pinchcocklaw38.TitrateTurns', WHERE WHAT IT READS IS OF BULK AT MOST 1048576: true; the input reads as it did. -/
def titrateTurnsUptoRow : OpenClaim := { program := "ythijabhnmjbboaa", sum := "61534e86048f552e3ca4ccc6ba5cd5d110b1b8cdf592cfb6e37fa67edaac30b9", func := "pinchcock/pinchcocklaw38.TitrateTurns", spec := "titrateTurns", apart := false, narrowed := true }
def TitrateTurnsUptoSaid : Prop := titrateTurnsUptoRow.holds Try.pinned (OpenSpec.upto titrateTurnsSpec)

end Rows
end Go.Proofs.Ythijabhnmjbboaa
