/- Contracts of package debounce, the document's, and the law package's own. -/
import Derived.Test.YtkddledajffdbaaBox
import Derived.WalkKit
import Derived.ProofKit
import Derived.OpenShut
import Derived.Handy
import Derived.Lib.Hide
namespace Go.Proofs.Ytkddledajffdbaa
set_option maxRecDepth 100000
open Go.RowKit
set_option linter.unusedVariables false
set_option linter.unusedSimpArgs false
attribute [local go_sem] cell_set_ite Near.cell Near.frozen

def dbO (o : Bool) (r : Int) (x : Bool) : Bool := if x = o then o else if 1 ≤ r then x else o
def dbR (o : Bool) (r : Int) (x : Bool) : Int := if x = o then 0 else if 1 ≤ r then 0 else 1
theorem db_same (o : Bool) (r : Int) : dbO o r o = o ∧ dbR o r o = 0 := by simp [dbO, dbR]
theorem db_firm {o x : Bool} {r : Int} (h : x ≠ o) (hr : 1 ≤ r) : dbO o r x = x ∧ dbR o r x = 0 := by simp [dbO, dbR, h, hr]
theorem db_not {o x : Bool} {r : Int} (h : x ≠ o) (hr : r ≤ 0) : dbO o r x = o ∧ dbR o r x = 1 := by simp [dbO, dbR, h, show ¬ 1 ≤ r by omega]

theorem db_step (o : Bool) (r : Int) (x : Bool) (w : World) : Calls Try.prog 61 #[.agg #[.bool o, .int .i64 r], .bool x] w fun e w' => e = .returned (.agg #[.bool (dbO o r x), .int .i64 (dbR o r x)]) ∧ Below w.heap.size w w' := by
  by_cases h : x = o
  · subst h
    obtain ⟨e1, e2⟩ := db_same x r
    rw [e1, e2]
    clear e1 e2
    have t1 : (x == x) = true := by simp
    go_enter Try.func61, Try.ntmps61
    go_wp2
    exact bodyPost_ret (v := .agg #[.bool x, .int .i64 0]) (by simp [results, Try.results61, go_sem]) rfl ⟨rfl, by (repeat (first | (with_reducible exact Below.refl _ _) | (with_reducible assumption) | (with_reducible refine Near.up _ ?_) | (with_reducible refine Below.drew ?_) | (with_reducible refine below_alloc_on ?_ _) | (with_reducible refine below_set_on ?_ (by first | (simp; done) | (simp; omega) | omega) _)))⟩
  · have t1 : (x == o) = false := by simpa using h
    rcases (by omega : r < 0 ∨ r = 0 ∨ (1 ≤ r ∧ r ≤ 2) ∨ 2 < r) with h1 | rfl | ⟨h1, h2⟩ | h1
    · obtain ⟨e1, e2⟩ := db_not h (show r ≤ 0 by omega)
      rw [e1, e2]
      clear e1 e2
      go_enter Try.func61, Try.ntmps61
      go_wp2
      exact bodyPost_ret (v := .agg #[.bool o, .int .i64 1]) (by simp [results, Try.results61, go_sem]) rfl ⟨rfl, by (repeat (first | (with_reducible exact Below.refl _ _) | (with_reducible assumption) | (with_reducible refine Near.up _ ?_) | (with_reducible refine Below.drew ?_) | (with_reducible refine below_alloc_on ?_ _) | (with_reducible refine below_set_on ?_ (by first | (simp; done) | (simp; omega) | omega) _)))⟩
    · obtain ⟨e1, e2⟩ := db_not h (show (0 : Int) ≤ 0 by omega)
      rw [e1, e2]
      clear e1 e2
      go_enter Try.func61, Try.ntmps61
      go_wp2
      exact bodyPost_ret (v := .agg #[.bool o, .int .i64 1]) (by simp [results, Try.results61, go_sem]) rfl ⟨rfl, by (repeat (first | (with_reducible exact Below.refl _ _) | (with_reducible assumption) | (with_reducible refine Near.up _ ?_) | (with_reducible refine Below.drew ?_) | (with_reducible refine below_alloc_on ?_ _) | (with_reducible refine below_set_on ?_ (by first | (simp; done) | (simp; omega) | omega) _)))⟩
    · obtain ⟨e1, e2⟩ := db_firm h h1
      rw [e1, e2]
      clear e1 e2
      go_enter Try.func61, Try.ntmps61
      go_wp2
      exact bodyPost_ret (v := .agg #[.bool x, .int .i64 0]) (by simp [results, Try.results61, go_sem]) rfl ⟨rfl, by (repeat (first | (with_reducible exact Below.refl _ _) | (with_reducible assumption) | (with_reducible refine Near.up _ ?_) | (with_reducible refine Below.drew ?_) | (with_reducible refine below_alloc_on ?_ _) | (with_reducible refine below_set_on ?_ (by first | (simp; done) | (simp; omega) | omega) _)))⟩
    · obtain ⟨e1, e2⟩ := db_firm h (show 1 ≤ r by omega)
      rw [e1, e2]
      clear e1 e2
      go_enter Try.func61, Try.ntmps61
      go_wp2
      exact bodyPost_ret (v := .agg #[.bool x, .int .i64 0]) (by simp [results, Try.results61, go_sem]) rfl ⟨rfl, by (repeat (first | (with_reducible exact Below.refl _ _) | (with_reducible assumption) | (with_reducible refine Near.up _ ?_) | (with_reducible refine Below.drew ?_) | (with_reducible refine below_alloc_on ?_ _) | (with_reducible refine below_set_on ?_ (by first | (simp; done) | (simp; omega) | omega) _)))⟩
theorem rd_step (o : Bool) (r : Int) (x : Bool) (w : World) : Calls Try.prog 43 #[.agg #[.bool o, .int .i64 r], .bool x] w fun e w' => e = .returned (.agg #[.bool (dbO o r x), .int .i64 (dbR o r x)]) ∧ Below w.heap.size w w' := by
  by_cases h : x = o
  · subst h
    obtain ⟨e1, e2⟩ := db_same x r
    rw [e1, e2]
    clear e1 e2
    have t1 : (x == x) = true := by simp
    go_enter Try.func43, Try.ntmps43
    go_wp2
    exact bodyPost_ret (v := .agg #[.bool x, .int .i64 0]) (by simp [results, Try.results43, go_sem]) rfl ⟨rfl, by (repeat (first | (with_reducible exact Below.refl _ _) | (with_reducible assumption) | (with_reducible refine Near.up _ ?_) | (with_reducible refine Below.drew ?_) | (with_reducible refine below_alloc_on ?_ _) | (with_reducible refine below_set_on ?_ (by first | (simp; done) | (simp; omega) | omega) _)))⟩
  · have t1 : (o == x) = false := by simpa using fun e => h (Eq.symm e)
    rcases (by omega : r < 0 ∨ r = 0 ∨ (1 ≤ r ∧ r ≤ 2) ∨ 2 < r) with h1 | rfl | ⟨h1, h2⟩ | h1
    · obtain ⟨e1, e2⟩ := db_not h (show r ≤ 0 by omega)
      rw [e1, e2]
      clear e1 e2
      go_enter Try.func43, Try.ntmps43
      go_wp2
      exact bodyPost_ret (v := .agg #[.bool o, .int .i64 1]) (by simp [results, Try.results43, go_sem]) rfl ⟨rfl, by (repeat (first | (with_reducible exact Below.refl _ _) | (with_reducible assumption) | (with_reducible refine Near.up _ ?_) | (with_reducible refine Below.drew ?_) | (with_reducible refine below_alloc_on ?_ _) | (with_reducible refine below_set_on ?_ (by first | (simp; done) | (simp; omega) | omega) _)))⟩
    · obtain ⟨e1, e2⟩ := db_not h (show (0 : Int) ≤ 0 by omega)
      rw [e1, e2]
      clear e1 e2
      go_enter Try.func43, Try.ntmps43
      go_wp2
      exact bodyPost_ret (v := .agg #[.bool o, .int .i64 1]) (by simp [results, Try.results43, go_sem]) rfl ⟨rfl, by (repeat (first | (with_reducible exact Below.refl _ _) | (with_reducible assumption) | (with_reducible refine Near.up _ ?_) | (with_reducible refine Below.drew ?_) | (with_reducible refine below_alloc_on ?_ _) | (with_reducible refine below_set_on ?_ (by first | (simp; done) | (simp; omega) | omega) _)))⟩
    · obtain ⟨e1, e2⟩ := db_firm h h1
      rw [e1, e2]
      clear e1 e2
      go_enter Try.func43, Try.ntmps43
      go_wp2
      exact bodyPost_ret (v := .agg #[.bool x, .int .i64 0]) (by simp [results, Try.results43, go_sem]) rfl ⟨rfl, by (repeat (first | (with_reducible exact Below.refl _ _) | (with_reducible assumption) | (with_reducible refine Near.up _ ?_) | (with_reducible refine Below.drew ?_) | (with_reducible refine below_alloc_on ?_ _) | (with_reducible refine below_set_on ?_ (by first | (simp; done) | (simp; omega) | omega) _)))⟩
    · obtain ⟨e1, e2⟩ := db_firm h (show 1 ≤ r by omega)
      rw [e1, e2]
      clear e1 e2
      go_enter Try.func43, Try.ntmps43
      go_wp2
      exact bodyPost_ret (v := .agg #[.bool x, .int .i64 0]) (by simp [results, Try.results43, go_sem]) rfl ⟨rfl, by (repeat (first | (with_reducible exact Below.refl _ _) | (with_reducible assumption) | (with_reducible refine Near.up _ ?_) | (with_reducible refine Below.drew ?_) | (with_reducible refine below_alloc_on ?_ _) | (with_reducible refine below_set_on ?_ (by first | (simp; done) | (simp; omega) | omega) _)))⟩

end Go.Proofs.Ytkddledajffdbaa
