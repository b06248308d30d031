/- Mathematics of DiaryKeeps: the last thirty-two; a part of a list as it lies; what was since is a prefix. -/
import Derived.Test.YtbhgecmmmkmkjaaDoorLaw44
namespace Go.Proofs.YtbhgecmmmkmkjaaDoor
open Go.RowKit Go.Deep
set_option linter.unusedVariables false
set_option linter.unusedSimpArgs false
set_option maxRecDepth 100000

def kp (l : List Nt) (k : Nat) : List Nt := (l.take k).drop (k - 32)
theorem kp_len (l : List Nt) (k : Nat) (hk : k ≤ l.length) : (kp l k).length = min k 32 := by
  unfold kp; rw [List.length_drop, List.length_take]; omega
theorem kp_push (l : List Nt) (k : Nat) (hk : k < l.length) : pushN (kp l k) (l.getD k nt0) = kp l (k + 1) := by
  unfold pushN
  rw [kp_len l k (by omega)]
  unfold kp
  rw [List.drop_drop, show k - 32 + (min k 32 - 31) = k + 1 - 32 by omega, List.take_add_one, List.getElem?_eq_getElem hk]
  rw [List.drop_append_of_le_length (by rw [List.length_take]; omega)]
  simp [List.getD, hk]
theorem kp_part (l : List Nt) (k : Nat) : kp l k = (l.drop (k - 32)).take (k - (k - 32)) := by
  unfold kp; rw [List.drop_take]
theorem Notes.take {w : World} {A : Option Addr} {n : Nat} {l : List Nt} (h : Notes w A n l) {m : Nat} (hm : m ≤ n) : Notes w A m (l.take m) := by
  refine ⟨by have := h.1; rw [List.length_take]; omega, fun h0 => ?_⟩
  obtain ⟨b, off, e, hl, hc⟩ := h.2 (by omega)
  refine ⟨b, off, e, hl, fun i hi => ?_⟩
  have e2 : (l.take m).getD i nt0 = l.getD i nt0 := by simp [List.getD, List.getElem?_take, hi]
  rw [e2]
  exact hc i (by omega)
/-- A reslice of a list of notes. -/
theorem Notes.part {w : World} {b off n : Nat} {l : List Nt} (h : Notes w (some ⟨b, off, none⟩) n l) {lo m : Nat} (hm : lo + m ≤ n) : Notes w (some ⟨b, off + lo * 3, none⟩) m ((l.drop lo).take m) :=
  (h.drop (r := lo) (by omega)).take (by omega)
/-- The last thirty-two of the first k, as they lie in the list itself. -/
theorem Notes.last {w : World} {b off n : Nat} {l : List Nt} (h : Notes w (some ⟨b, off, none⟩) n l) {k : Nat} (hk : k ≤ n) : Notes w (some ⟨b, off + (k - 32) * 3, none⟩) (min k 32) (kp l k) := by
  rw [kp_part]
  rw [show min k 32 = k - (k - 32) by omega]
  exact h.part (by omega)
theorem since_pre (l : List Nt) (tick : Int) : ∀ n k, k ≤ n → ∃ r, sinceL l tick n = sinceL l tick k ++ r := by
  intro n
  induction n with
  | zero => intro k hk; obtain rfl : k = 0 := by omega
            exact ⟨[], by rw [List.append_nil]⟩
  | succ n ih =>
    intro k hk
    rcases Nat.lt_or_ge n k with h | h
    · obtain rfl : k = n + 1 := by omega
      exact ⟨[], by rw [List.append_nil]⟩
    · obtain ⟨r, hr⟩ := ih k h
      have hS : sinceL l tick (n + 1) = if tick ≤ (l.getD n nt0).t then sinceL l tick n ++ [l.getD n nt0] else sinceL l tick n := rfl
      rw [hS, hr]
      split
      · exact ⟨r ++ [l.getD n nt0], by rw [List.append_assoc]⟩
      · exact ⟨r, rfl⟩
/-- The next that counts is the next of what was since. -/
theorem since_at (l : List Nt) (tick : Int) (n k : Nat) (hk : k < n) (h : tick ≤ (l.getD k nt0).t) : (sinceL l tick k).length < (sinceL l tick n).length ∧ (sinceL l tick n).getD (sinceL l tick k).length nt0 = l.getD k nt0 := by
  obtain ⟨r, hr⟩ := since_pre l tick n (k + 1) hk
  have hS : sinceL l tick (k + 1) = if tick ≤ (l.getD k nt0).t then sinceL l tick k ++ [l.getD k nt0] else sinceL l tick k := rfl
  rw [if_pos h] at hS
  rw [hr, hS]
  refine ⟨by simp only [List.length_append, List.length_cons, List.length_nil]; omega, ?_⟩
  rw [List.append_assoc, List.getD_eq_getElem?_getD, List.getElem?_append_right (Nat.le_refl _)]
  simp
theorem since_up (l : List Nt) (tick : Int) (k : Nat) : (sinceL l tick (k + 1)).length = (sinceL l tick k).length + (if tick ≤ (l.getD k nt0).t then 1 else 0) := by
  have hS : sinceL l tick (k + 1) = if tick ≤ (l.getD k nt0).t then sinceL l tick k ++ [l.getD k nt0] else sinceL l tick k := rfl
  rw [hS]; split <;> simp
end Go.Proofs.YtbhgecmmmkmkjaaDoor
