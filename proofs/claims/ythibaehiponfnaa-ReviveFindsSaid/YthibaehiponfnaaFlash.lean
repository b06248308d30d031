/- Contracts of package flash. -/
import Derived.Test.YthibaehiponfnaaLeaf
import Derived.Test.YthibaehiponfnaaBox
import Derived.Laws.Bits128
import Derived.ChangeKeysEq
import Derived.Laws.Entries
namespace Go.Proofs.Ythibaehiponfnaa
set_option maxRecDepth 100000
open Go.RowKit
set_option linter.unusedVariables false
set_option linter.unusedSimpArgs false
attribute [local go_sem] cell_set_ite Near.cell Near.frozen

theorem fl_and1 (n : Int) : bits .and .i64 n 1 = n % 2 := by
  have h1 : (BitVec.ofInt 64 1).toNat = 2 ^ 1 - 1 := by decide
  have key : (BitVec.ofInt 64 n &&& BitVec.ofInt 64 1).toNat = (n % ((2 ^ 64 : Nat) : Int)).toNat % 2 ^ 1 := by
    rw [BitVec.toNat_and, BitVec.toNat_ofInt, h1, Nat.and_two_pow_sub_one_eq_mod]
  show IntKind.i64.wrap ((BitVec.ofInt 64 n &&& BitVec.ofInt 64 1).toNat : Nat) = n % 2
  rw [key, IntKind.wrap_i64]
  omega

/-- What stands in a slot: of the slot that is meant, or of the other one. -/
def fz (k : Int) (x y : ByteArray) : ByteArray := if k % 2 = 0 then x else y
/-- The beginning of a text. -/
def fst (s : ByteArray) (n : Int) : ByteArray := s.extract 0 n.toNat

section
variable {w : World} {g : Nat} {v0 v1 v2 v3 v4 v5 : Value}
theorem Box.six (h : Box w g #[v0, v1, v2, v3, v4, v5]) : w.cell? ⟨g, 0, none⟩ = some v0 ∧ w.cell? ⟨g, 1, none⟩ = some v1 ∧ w.cell? ⟨g, 2, none⟩ = some v2 ∧ w.cell? ⟨g, 3, none⟩ = some v3 ∧ w.cell? ⟨g, 4, none⟩ = some v4 ∧
    w.cell? ⟨g, 5, none⟩ = some v5 ∧ (∀ i, w.frozen? ⟨g, i, none⟩ = false) ∧ g < w.heap.size := ⟨h.2.1 0, h.2.1 1, h.2.1 2, h.2.1 3, h.2.1 4, h.2.1 5, h.2.2, h.1⟩
end

theorem fl_filled (a b : ByteArray) (q : Bool) (k : Int) (c : ByteArray) (n : Int) (s : ByteArray) (w : World) :
    Calls Try.prog 23 #[.agg #[.string a, .string b, .bool q, .int .i64 k, .string c, .int .i64 n], .string s] w fun x w' =>
      x = .returned (.agg #[.string (fz k s a), .string (fz k b s), .bool q, .int .i64 k, .string c, .int .i64 n]) ∧ Below w.heap.size w w' := by
  have h1 := fl_and1 k
  unfold fz
  rcases (show k % 2 = 0 ∨ k % 2 = 1 by omega) with h | h
  · rw [if_pos h, if_pos h]
    rw [h] at h1
    go_enter Try.func23, Try.ntmps23
    go_wp2
    exact bodyPost_ret (v := .agg #[.string s, .string b, .bool q, .int .i64 k, .string c, .int .i64 n]) (by simp [results, Try.results23, go_sem]) rfl ⟨rfl, by (repeat (first | (with_reducible exact Below.refl _ _) | (with_reducible assumption) | (with_reducible refine Near.up _ ?_) | (with_reducible refine Below.drew ?_) | (with_reducible refine below_alloc_on ?_ _) | (with_reducible refine below_set_on ?_ (by first | (simp; done) | (simp; omega) | omega) _)))⟩
  · rw [if_neg (by omega), if_neg (by omega)]
    rw [h] at h1
    go_enter Try.func23, Try.ntmps23
    go_wp2
    exact bodyPost_ret (v := .agg #[.string a, .string s, .bool q, .int .i64 k, .string c, .int .i64 n]) (by simp [results, Try.results23, go_sem]) rfl ⟨rfl, by (repeat (first | (with_reducible exact Below.refl _ _) | (with_reducible assumption) | (with_reducible refine Near.up _ ?_) | (with_reducible refine Below.drew ?_) | (with_reducible refine below_alloc_on ?_ _) | (with_reducible refine below_set_on ?_ (by first | (simp; done) | (simp; omega) | omega) _)))⟩

theorem fl_idle (a b : ByteArray) (q : Bool) (k : Int) (c : ByteArray) (n : Int)  (w : World) :
    Calls Try.prog 15 #[.agg #[.string a, .string b, .bool q, .int .i64 k, .string c, .int .i64 n]] w fun x w' =>
      x = .returned (.agg #[.string a, .string b, .bool false, .int .i64 k, .string ⟨#[]⟩, .int .i64 0]) ∧ Below w.heap.size w w' := by
  go_enter Try.func15, Try.ntmps15
  go_wp2
  exact bodyPost_ret (v := .agg #[.string a, .string b, .bool false, .int .i64 k, .string ⟨#[]⟩, .int .i64 0]) (by simp [results, Try.results15, go_sem]) rfl ⟨rfl, by (repeat (first | (with_reducible exact Below.refl _ _) | (with_reducible assumption) | (with_reducible refine Near.up _ ?_) | (with_reducible refine Below.drew ?_) | (with_reducible refine below_alloc_on ?_ _) | (with_reducible refine below_set_on ?_ (by first | (simp; done) | (simp; omega) | omega) _)))⟩

theorem fl_written (a b : ByteArray) (q : Bool) (k : Int) (c : ByteArray) (n : Int) (m : Int) (h0 : 0 ≤ m) (h1 : m ≤ (c.size : Int)) (w : World) :
    Calls Try.prog 16 #[.agg #[.string a, .string b, .bool q, .int .i64 k, .string c, .int .i64 n], .int .i64 m] w fun x w' =>
      x = .returned (.agg #[.string (fz k (fst c m) a), .string (fz k b (fst c m)), .bool q, .int .i64 k, .string c, .int .i64 m]) ∧ Below w.heap.size w w' := by
  have A0 : Below w.heap.size w w := Below.refl _ _
  have hs : ∀ t w, Try.prog.underlying t = some .string → (Instr.slice t (.string c) none (some (.int .i64 m)) none).run Try.prog w = .ok (.string (fst c m)) w := fun t w ht => run_slice_string_h (ht := ht) (h0 := h0) (h2 := h1) ..
  go_enter Try.func16, Try.ntmps16
  go_wp2
  refine wp_region_calm_tail 6 (by kernel_rfl) (by kernel_rfl) ?_
  simp only [List.take_succ_cons, List.take_zero, List.drop_succ_cons, List.drop_zero]
  repeat (go_big_quiet_step (((go_at_call 23; exact calm_of _ (fl_filled _ _ _ _ _ _ _ _)))))
  refine wpQuiet_nil ?_
  intro _ hw'
  obtain ⟨u, rfl⟩ := hw'
  go_wp2
  exact bodyPost_ret (v := .agg #[.string (fz k (fst c m) a), .string (fz k b (fst c m)), .bool q, .int .i64 k, .string c, .int .i64 m]) (by simp [results, Try.results16, go_sem]) rfl ⟨rfl, by (repeat (first | (with_reducible exact Below.refl _ _) | (with_reducible assumption) | (with_reducible refine Near.up _ ?_) | (with_reducible refine Below.drew ?_) | (with_reducible refine below_alloc_on ?_ _) | (with_reducible refine below_set_on ?_ (by first | (simp; done) | (simp; omega) | omega) _)))⟩

theorem fst_all (s : ByteArray) {m : Int} (h : (s.size : Int) ≤ m) : fst s m = s := by
  unfold fst
  ext1
  simp
  omega
theorem fst_none (s : ByteArray) {m : Int} (h : m ≤ 0) : fst s m = ⟨#[]⟩ := by
  unfold fst
  rw [show m.toNat = 0 by omega]
  ext1
  simp
theorem fl_begin_busy (a b : ByteArray) (k : Int) (c : ByteArray) (n : Int) (i : Int) (s : ByteArray)  (w : World) :
    Calls Try.prog 14 #[.agg #[.string a, .string b, .bool true, .int .i64 k, .string c, .int .i64 n], .int .i64 i, .string s] w fun x w' =>
      x = .returned (.tuple #[.agg #[.string ⟨#[]⟩, .string ⟨#[]⟩, .bool false, .int .i64 0, .string ⟨#[]⟩, .int .i64 0], .int .i64 8]) ∧ Below w.heap.size w w' := by
  go_enter Try.func14, Try.ntmps14
  go_wp2
  exact bodyPost_ret (v := .tuple #[.agg #[.string ⟨#[]⟩, .string ⟨#[]⟩, .bool false, .int .i64 0, .string ⟨#[]⟩, .int .i64 0], .int .i64 8]) (by simp [results, Try.results14, go_sem]) rfl ⟨rfl, by (repeat (first | (with_reducible exact Below.refl _ _) | (with_reducible assumption) | (with_reducible refine Near.up _ ?_) | (with_reducible refine Below.drew ?_) | (with_reducible refine below_alloc_on ?_ _) | (with_reducible refine below_set_on ?_ (by first | (simp; done) | (simp; omega) | omega) _)))⟩

theorem fl_begin_arg (a b : ByteArray) (k : Int) (c : ByteArray) (n : Int) (i : Int) (s : ByteArray) (h : i ≠ 0 ∧ i ≠ 1) (w : World) :
    Calls Try.prog 14 #[.agg #[.string a, .string b, .bool false, .int .i64 k, .string c, .int .i64 n], .int .i64 i, .string s] w fun x w' =>
      x = .returned (.tuple #[.agg #[.string ⟨#[]⟩, .string ⟨#[]⟩, .bool false, .int .i64 0, .string ⟨#[]⟩, .int .i64 0], .int .i64 1]) ∧ Below w.heap.size w w' := by
  obtain ⟨h0, h1⟩ := h
  have d0 : (i != 0) = true := by simpa using h0
  have d1 : (i != 1) = true := by simpa using h1
  go_enter Try.func14, Try.ntmps14
  go_wp2
  exact bodyPost_ret (v := .tuple #[.agg #[.string ⟨#[]⟩, .string ⟨#[]⟩, .bool false, .int .i64 0, .string ⟨#[]⟩, .int .i64 0], .int .i64 1]) (by simp [results, Try.results14, go_sem]) rfl ⟨rfl, by (repeat (first | (with_reducible exact Below.refl _ _) | (with_reducible assumption) | (with_reducible refine Near.up _ ?_) | (with_reducible refine Below.drew ?_) | (with_reducible refine below_alloc_on ?_ _) | (with_reducible refine below_set_on ?_ (by first | (simp; done) | (simp; omega) | omega) _)))⟩

theorem fl_begin_size (a b : ByteArray) (k : Int) (c : ByteArray) (n : Int) (i : Int) (s : ByteArray) (h : i = 0 ∨ i = 1) (hs : (s.size : Int) < 1 ∨ 64 < (s.size : Int)) (w : World) :
    Calls Try.prog 14 #[.agg #[.string a, .string b, .bool false, .int .i64 k, .string c, .int .i64 n], .int .i64 i, .string s] w fun x w' =>
      x = .returned (.tuple #[.agg #[.string ⟨#[]⟩, .string ⟨#[]⟩, .bool false, .int .i64 0, .string ⟨#[]⟩, .int .i64 0], .int .i64 4]) ∧ Below w.heap.size w w' := by
  rcases h with rfl | rfl
  · rcases (show (s.size : Int) < 1 ∨ (¬ (s.size : Int) < 1 ∧ 64 < (s.size : Int)) by omega) with h0 | ⟨h0, h1⟩
    · have d0 := decide_eq_true h0
      go_enter Try.func14, Try.ntmps14
      go_wp2
      exact bodyPost_ret (v := .tuple #[.agg #[.string ⟨#[]⟩, .string ⟨#[]⟩, .bool false, .int .i64 0, .string ⟨#[]⟩, .int .i64 0], .int .i64 4]) (by simp [results, Try.results14, go_sem]) rfl ⟨rfl, by (repeat (first | (with_reducible exact Below.refl _ _) | (with_reducible assumption) | (with_reducible refine Near.up _ ?_) | (with_reducible refine Below.drew ?_) | (with_reducible refine below_alloc_on ?_ _) | (with_reducible refine below_set_on ?_ (by first | (simp; done) | (simp; omega) | omega) _)))⟩
    · have d0 := decide_eq_false h0
      have d1 := decide_eq_true h1
      go_enter Try.func14, Try.ntmps14
      go_wp2
      exact bodyPost_ret (v := .tuple #[.agg #[.string ⟨#[]⟩, .string ⟨#[]⟩, .bool false, .int .i64 0, .string ⟨#[]⟩, .int .i64 0], .int .i64 4]) (by simp [results, Try.results14, go_sem]) rfl ⟨rfl, by (repeat (first | (with_reducible exact Below.refl _ _) | (with_reducible assumption) | (with_reducible refine Near.up _ ?_) | (with_reducible refine Below.drew ?_) | (with_reducible refine below_alloc_on ?_ _) | (with_reducible refine below_set_on ?_ (by first | (simp; done) | (simp; omega) | omega) _)))⟩
  · rcases (show (s.size : Int) < 1 ∨ (¬ (s.size : Int) < 1 ∧ 64 < (s.size : Int)) by omega) with h0 | ⟨h0, h1⟩
    · have d0 := decide_eq_true h0
      go_enter Try.func14, Try.ntmps14
      go_wp2
      exact bodyPost_ret (v := .tuple #[.agg #[.string ⟨#[]⟩, .string ⟨#[]⟩, .bool false, .int .i64 0, .string ⟨#[]⟩, .int .i64 0], .int .i64 4]) (by simp [results, Try.results14, go_sem]) rfl ⟨rfl, by (repeat (first | (with_reducible exact Below.refl _ _) | (with_reducible assumption) | (with_reducible refine Near.up _ ?_) | (with_reducible refine Below.drew ?_) | (with_reducible refine below_alloc_on ?_ _) | (with_reducible refine below_set_on ?_ (by first | (simp; done) | (simp; omega) | omega) _)))⟩
    · have d0 := decide_eq_false h0
      have d1 := decide_eq_true h1
      go_enter Try.func14, Try.ntmps14
      go_wp2
      exact bodyPost_ret (v := .tuple #[.agg #[.string ⟨#[]⟩, .string ⟨#[]⟩, .bool false, .int .i64 0, .string ⟨#[]⟩, .int .i64 0], .int .i64 4]) (by simp [results, Try.results14, go_sem]) rfl ⟨rfl, by (repeat (first | (with_reducible exact Below.refl _ _) | (with_reducible assumption) | (with_reducible refine Near.up _ ?_) | (with_reducible refine Below.drew ?_) | (with_reducible refine below_alloc_on ?_ _) | (with_reducible refine below_set_on ?_ (by first | (simp; done) | (simp; omega) | omega) _)))⟩

end Go.Proofs.Ythibaehiponfnaa
