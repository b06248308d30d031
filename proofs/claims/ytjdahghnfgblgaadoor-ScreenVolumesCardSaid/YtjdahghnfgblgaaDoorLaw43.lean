/- The tables that the law package's rows lay. -/
import Derived.Test.YtjdahghnfgblgaaDoorScr6
import Derived.Test.YtjdahghnfgblgaaDoorLaid
import Derived.Test.YtjdahghnfgblgaaDoorLift
import Derived.Test.YtjdahghnfgblgaaDoorLeaf
import Derived.LaidSub
namespace Go.Proofs.YtjdahghnfgblgaaDoor
open Go.RowKit Go.Deep
set_option linter.unusedVariables false
set_option linter.unusedSimpArgs false
set_option maxRecDepth 100000

theorem sc_tabs {W : World} {l : List (String × DataW Unit)} (h : laidMetH Tryd.prog l W)
    (e1 : l.filter (fun x => x.1 == "internal/strconv.uint64pow10") = [("internal/strconv.uint64pow10", Lib.tabData .u64 Lib.pow10Tab)])
    (e2 : l.filter (fun x => x.1 == "pinchcock/mode.names") = [("pinchcock/mode.names", .agg (mdNames.map fun s => .lit (.string s)))])
    (e3 : l.filter (fun x => x.1 == "pinchcock/screen.names") = [("pinchcock/screen.names", .agg (scNames.map fun s => .lit (.string s)))])
    (e4 : l.filter (fun x => x.1 == "math/bits.deBruijn64tab") = [("math/bits.deBruijn64tab", Lib.tabData .u8 scBru)]) : ScT W := by
  have h1 := laidMetH.filter (fun x => x.1 == "internal/strconv.uint64pow10") h
  have h2 := laidMetH.filter (fun x => x.1 == "pinchcock/mode.names") h
  have h3 := laidMetH.filter (fun x => x.1 == "pinchcock/screen.names") h
  have h4 := laidMetH.filter (fun x => x.1 == "math/bits.deBruijn64tab") h
  rw [e1] at h1
  rw [e2] at h2
  rw [e3] at h3
  rw [e4] at h4
  exact ⟨Lib.tabIs_of_head (g := 4) (by kernel_rfl) (by kernel_rfl) Tryd.underlying74 Tryd.underlying64 (by kernel_rfl) (by kernel_rfl) h1,
    words_of (by kernel_rfl) (by kernel_rfl) Tryd.underlying55 Tryd.underlying9 (by kernel_rfl) rfl (by decide) h2,
    words_of (by kernel_rfl) (by kernel_rfl) Tryd.underlying57 Tryd.underlying9 (by kernel_rfl) rfl (by decide) h3,
    tab_of (by kernel_rfl) (by kernel_rfl) Tryd.underlying71 Tryd.underlying5 (by kernel_rfl) (by kernel_rfl) (by decide) h4⟩
end Go.Proofs.YtjdahghnfgblgaaDoor
