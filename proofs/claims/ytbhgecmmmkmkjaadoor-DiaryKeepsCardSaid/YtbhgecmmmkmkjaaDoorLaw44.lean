/- What the laws of the diary read of their arguments and of the tables. -/
import Derived.Test.YtbhgecmmmkmkjaaDoorDiaV
import Derived.LaidSub
namespace Go.Proofs.YtbhgecmmmkmkjaaDoor
open Go.RowKit Go.Deep
set_option linter.unusedVariables false
set_option linter.unusedSimpArgs false
set_option maxRecDepth 100000

theorem i64_wf {x : Int} (h : (Lit.int .i64 x).wf = true) : I64 x := by
  simp only [Lit.wf, IntKind.min, IntKind.max, IntKind.signed, IntKind.bits, Bool.and_eq_true] at h
  have h1 := h.1
  have h2 := h.2
  simp at h1 h2
  exact ⟨h1, h2⟩
theorem dia_tabs {W : World} {l : List (String × DataW Unit)} (h : laidMetH Tryd.prog l W)
    (e1 : l.filter (fun x => x.1 == "internal/strconv.uint64pow10") = [("internal/strconv.uint64pow10", Lib.tabData .u64 Lib.pow10Tab)])
    (e2 : l.filter (fun x => x.1 == "pinchcock/diary.words") = [("pinchcock/diary.words", .agg (diWords.map fun s => .lit (.string s)))]) : ItTab W ∧ Words W 0 diWords := by
  have h1 := laidMetH.filter (fun x => x.1 == "internal/strconv.uint64pow10") h
  have h2 := laidMetH.filter (fun x => x.1 == "pinchcock/diary.words") h
  rw [e1] at h1
  rw [e2] at h2
  exact ⟨Lib.tabIs_of_head (g := 4) (by kernel_rfl) (by kernel_rfl) Tryd.underlying76 Tryd.underlying27 (by kernel_rfl) (by kernel_rfl) h1,
    words_of (by kernel_rfl) (by kernel_rfl) Tryd.underlying48 Tryd.underlying9 (by kernel_rfl) rfl (by decide) h2⟩
theorem rpush_as (A : Option Addr) (n c : Nat) (l M : List Nt) (m : Nat) (xt xw xa : Int) (w : World) (h : Notes w A n l) (hn : n ≤ 1000) (hM : pushN l ⟨xt, xw, xa⟩ = M) (hm : M.length = m) : Calls Tryd.prog 15 #[.slice A n c, .agg #[.int .i64 xt, .int .i64 xw, .int .i64 xa]] w fun e w' => ∃ B d, e = .returned (.slice B m d) ∧ m ≤ d ∧ Notes w' B m M ∧ Below w.heap.size w w' := by
  subst hM hm
  exact rd_push A n c l xt xw xa w h hn
theorem rsince_as (A : Option Addr) (n c : Nat) (l M : List Nt) (m : Nat) (tick : Int) (w : World) (h : Notes w A n l) (hn : n ≤ 100000) (hM : sinceL l tick n = M) (hm : M.length = m) : Calls Tryd.prog 19 #[.slice A n c, .int .i64 tick] w fun e w' => ∃ B d, e = .returned (.slice B m d) ∧ m ≤ d ∧ Notes w' B m M ∧ Below w.heap.size w w' := by
  subst hM hm
  exact rd_since A n c l tick w h hn
end Go.Proofs.YtbhgecmmmkmkjaaDoor
