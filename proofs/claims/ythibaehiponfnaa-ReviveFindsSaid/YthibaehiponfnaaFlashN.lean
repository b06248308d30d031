/- What a deed does to a flash, whatever it is. -/
import Derived.Test.YthibaehiponfnaaLaw15
import Derived.Test.YthibaehiponfnaaLeaf
namespace Go.Proofs.Ythibaehiponfnaa
open Go.ChangeShapes Go.WideShapes Go.ChangeAt Go.RowKit
set_option linter.unusedVariables false
set_option linter.unusedSimpArgs false
set_option maxRecDepth 100000

/-- A flash as it comes about: idle with nothing to write, or busy, and what is written stands in its slot. -/
def FlSt (a b : ByteArray) (q : Bool) (k : Int) (c : ByteArray) (n : Int) : Prop :=
  (k = 0 ∨ k = 1) ∧ ((q = false ∧ c = ⟨#[]⟩ ∧ n = 0) ∨ (q = true ∧ 0 ≤ n ∧ n ≤ (c.size : Int) ∧ fz k a b = fst c n))
theorem fz_in {k : Int} (hk : k = 0 ∨ k = 1) (x a b : ByteArray) : fz k (fz k x a) (fz k b x) = x := by rcases hk with rfl | rfl <;> rfl
theorem fz_out {k : Int} (hk : k = 0 ∨ k = 1) (x a b : ByteArray) : fz k (fz k b x) (fz k x a) = fz k b a := by rcases hk with rfl | rfl <;> rfl

theorem d_begin (a b : ByteArray) (q : Bool) (k : Int) (c : ByteArray) (n : Int) (i : Int) (s : ByteArray) : ∃ A0 A1 A2 A3 A4 A5 E,
    (∀ w, Calls Try.prog 14 #[.agg #[.string a, .string b, .bool q, .int .i64 k, .string c, .int .i64 n], .int .i64 i, .string s] w fun x w' => x = .returned (.tuple #[.agg #[.string A0, .string A1, .bool A2, .int .i64 A3, .string A4, .int .i64 A5], .int .i64 E]) ∧ Below w.heap.size w w') ∧
    ((E == 0) = false ∨ (E = 0 ∧ q = false ∧ FlSt A0 A1 A2 A3 A4 A5 ∧ ((A3 = 0 ∧ A0 = ⟨#[]⟩ ∧ b = A1) ∨ (A3 = 1 ∧ A1 = ⟨#[]⟩ ∧ a = A0)))) := by
  cases q
  · by_cases hi : i = 0 ∨ i = 1
    · by_cases hs : 1 ≤ (s.size : Int) ∧ (s.size : Int) ≤ 64
      · refine ⟨_, _, _, _, _, _, _, fun w => fl_begin_ok a b k c n i s hi hs.1 hs.2 w, .inr ⟨rfl, rfl, ⟨hi, .inr ⟨rfl, by omega, by omega, ?_⟩⟩, ?_⟩⟩
        · rw [fst_none s (by omega)]; exact fz_in hi _ _ _
        · rcases hi with rfl | rfl
          · exact .inl ⟨rfl, rfl, rfl⟩
          · exact .inr ⟨rfl, rfl, rfl⟩
      · exact ⟨_, _, _, _, _, _, _, fun w => fl_begin_size a b k c n i s hi (by omega) w, .inl rfl⟩
    · exact ⟨_, _, _, _, _, _, _, fun w => fl_begin_arg a b k c n i s (by omega) w, .inl rfl⟩
  · exact ⟨_, _, _, _, _, _, _, fun w => fl_begin_busy a b k c n i s w, .inl rfl⟩

theorem d_step {a b : ByteArray} {q : Bool} {k : Int} {c : ByteArray} {n : Int} (h : FlSt a b q k c n) (v : Bool) : ∃ A0 A1 A2 A3 A4 A5 E,
    (∀ w, Calls Try.prog 7 #[.agg #[.string a, .string b, .bool q, .int .i64 k, .string c, .int .i64 n], .bool v] w fun x w' => x = .returned (.tuple #[.agg #[.string A0, .string A1, .bool A2, .int .i64 A3, .string A4, .int .i64 A5], .int .i64 E]) ∧ Below w.heap.size w w') ∧
    FlSt A0 A1 A2 A3 A4 A5 ∧ (q = true → fz k A1 A0 = fz k b a) ∧ (q = false → A0 = a ∧ A1 = b ∧ A2 = q ∧ A3 = k ∧ A4 = c ∧ A5 = n) := by
  obtain ⟨hk, hq⟩ := h
  cases q
  · exact ⟨_, _, _, _, _, _, _, fun w => fl_step_idle a b k c n v w, ⟨hk, hq⟩, fun e => by simp at e, fun _ => ⟨rfl, rfl, rfl, rfl, rfl, rfl⟩⟩
  · cases v
    · exact ⟨_, _, _, _, _, _, _, fun w => fl_step_torn a b k c n w, ⟨hk, .inl ⟨rfl, rfl, rfl⟩⟩, fun _ => rfl, fun e => by simp at e⟩
    · rcases Int.lt_or_le (nxV n) (c.size : Int) with h | h
      · refine ⟨_, _, _, _, _, _, _, fun w => fl_step_goes a b k c n h w, ⟨hk, .inr ⟨rfl, ?_, by omega, fz_in hk _ _ _⟩⟩, fun _ => fz_out hk _ _ _, fun e => by simp at e⟩
        have := nx_bd n
        omega
      · exact ⟨_, _, _, _, _, _, _, fun w => fl_step_done a b k c n h w, ⟨hk, .inl ⟨rfl, rfl, rfl⟩⟩, fun _ => fz_out hk _ _ _, fun e => by simp at e⟩
theorem d_cut {a b : ByteArray} {q : Bool} {k : Int} {c : ByteArray} {n : Int} (h : FlSt a b q k c n) (t : ByteArray) : ∃ A0 A1 A2 A3 A4 A5,
    (∀ w, Calls Try.prog 10 #[.agg #[.string a, .string b, .bool q, .int .i64 k, .string c, .int .i64 n], .string t] w fun x w' => x = .returned (.agg #[.string A0, .string A1, .bool A2, .int .i64 A3, .string A4, .int .i64 A5]) ∧ Below w.heap.size w w') ∧
    FlSt A0 A1 A2 A3 A4 A5 ∧ (q = true → fz k A1 A0 = fz k b a) ∧ (q = false → A0 = a ∧ A1 = b ∧ A2 = q ∧ A3 = k ∧ A4 = c ∧ A5 = n) := by
  obtain ⟨hk, hq⟩ := h
  cases q
  · obtain ⟨_, rfl, rfl⟩ : false = false ∧ c = ⟨#[]⟩ ∧ n = 0 := by rcases hq with h | h <;> simp_all
    exact ⟨_, _, _, _, _, _, fun w => fl_cut_idle a b k _ _ t w, ⟨hk, .inl ⟨rfl, rfl, rfl⟩⟩, fun e => by simp at e, fun _ => ⟨rfl, rfl, rfl, rfl, rfl, rfl⟩⟩
  · exact ⟨_, _, _, _, _, _, fun w => fl_cut_busy a b k c n t w, ⟨hk, .inl ⟨rfl, rfl, rfl⟩⟩, fun _ => fz_out hk _ _ _, fun e => by simp at e⟩

/-- Deed i of a list: its kind, slot and text. -/
def FlDeeds (w : World) (A : Option Addr) (n : Nat) (R H : Nat → Int) (K : Nat → ByteArray) : Prop :=
  0 < n → ∃ b off, A = some ⟨b, off, Option.none⟩ ∧ b < w.heap.size ∧ ∀ i, i < n →
    w.cell? ⟨b, off + i * 3, Option.none⟩ = some (.int .i64 (R i)) ∧ w.cell? ⟨b, off + i * 3 + 1, Option.none⟩ = some (.int .i64 (H i)) ∧ w.cell? ⟨b, off + i * 3 + 2, Option.none⟩ = some (.string (K i))
theorem fl_deeds_of {w : World} {A : Option Addr} {n : Nat} {rs : List (List Value)} (h : Rows [.int .i64, .int .i64, .string] w A n rs) :
    ∃ (R H : Nat → Int) (K : Nat → ByteArray), FlDeeds w A n R H K := by
  have hc : ∀ i, ∃ (r x : Int) (q : ByteArray), i < n → (rs.getD i []).getD 0 undef = .int .i64 r ∧ (rs.getD i []).getD 1 undef = .int .i64 x ∧ (rs.getD i []).getD 2 undef = .string q := fun i => by
    by_cases h1 : i < n
    · obtain ⟨r, e0, w0⟩ : leafIs (.int .i64) _ := (h.2.1 i h1).2 0 _ rfl
      obtain ⟨x, e1, w1⟩ : leafIs (.int .i64) _ := (h.2.1 i h1).2 1 _ rfl
      obtain ⟨q, e2, _⟩ : leafIs .string _ := (h.2.1 i h1).2 2 _ rfl
      exact ⟨r, x, q, fun _ => ⟨e0, e1, e2⟩⟩
    · exact ⟨0, 0, ⟨#[]⟩, fun g => absurd g h1⟩
  let R := fun i => Classical.choose (hc i)
  let H := fun i => Classical.choose (Classical.choose_spec (hc i))
  let K := fun i => Classical.choose (Classical.choose_spec (Classical.choose_spec (hc i)))
  have hs : ∀ i, i < n → (rs.getD i []).getD 0 undef = .int .i64 (R i) ∧ (rs.getD i []).getD 1 undef = .int .i64 (H i) ∧ (rs.getD i []).getD 2 undef = .string (K i) :=
    fun i => Classical.choose_spec (Classical.choose_spec (Classical.choose_spec (hc i)))
  refine ⟨R, H, K, fun h0 => ?_⟩
  obtain ⟨b, off, rfl, hlt, hcell⟩ := h.2.2 h0
  refine ⟨b, off, rfl, hlt, fun i hi => ?_⟩
  obtain ⟨e0, e1, e2⟩ := hs i hi
  exact ⟨(hcell i hi 0 (by simp)).trans (congrArg some e0), (hcell i hi 1 (by simp)).trans (congrArg some e1), (hcell i hi 2 (by simp)).trans (congrArg some e2)⟩

theorem Box.six_set {w : World} {g : Nat} {v0 v1 v2 v3 v4 v5 : Value} (h : Box w g #[v0, v1, v2, v3, v4, v5]) (x0 x1 x2 x3 x4 x5 : Value) :
    Box ((((((w.setCell ⟨g, 0, none⟩ x0).setCell ⟨g, 1, none⟩ x1).setCell ⟨g, 2, none⟩ x2).setCell ⟨g, 3, none⟩ x3).setCell ⟨g, 4, none⟩ x4).setCell ⟨g, 5, none⟩ x5) g #[x0, x1, x2, x3, x4, x5] :=
  (((((h.set (i := 0) (by simp) x0).set (i := 1) (by simp) x1).set (i := 2) (by simp) x2).set (i := 3) (by simp) x3).set (i := 4) (by simp) x4).set (i := 5) (by simp) x5
end Go.Proofs.Ythibaehiponfnaa
