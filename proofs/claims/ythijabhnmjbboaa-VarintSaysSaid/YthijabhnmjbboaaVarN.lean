/- Numbers as few bytes as they need, as plain functions on lists. -/
import Derived.Test.YthijabhnmjbboaaSat
namespace Go.Proofs.Ythijabhnmjbboaa
set_option linter.unusedVariables false
set_option linter.unusedSimpArgs false

/-- Of at most k more bytes. -/
def putN : Nat → Nat → List UInt8
  | 0, n => [UInt8.ofNat n]
  | k + 1, n => if n < 128 then [UInt8.ofNat n] else UInt8.ofNat (128 + n % 128) :: putN k (n / 128)
def tkN : Nat → List UInt8 → Option (Nat × Nat)
  | 0, _ => none
  | _ + 1, [] => none
  | k + 1, d :: ds => if d.toNat < 128 then some (d.toNat, 1) else (tkN k ds).map fun p => (d.toNat % 128 + 128 * p.1, p.2 + 1)
theorem putN_ne (k n : Nat) : putN k n ≠ [] := by
  cases k with
  | zero => simp [putN]
  | succ k => unfold putN; split <;> simp
theorem putN_len (k : Nat) : ∀ n, 1 ≤ (putN k n).length ∧ (putN k n).length ≤ k + 1 := by
  induction k with
  | zero => intro n; simp [putN]
  | succ k ih =>
    intro n
    unfold putN
    split
    · simp
    · have := ih (n / 128); simp; omega
theorem of_lt {n : Nat} (h : n < 256) : (UInt8.ofNat n).toNat = n := by
  rw [UInt8.toNat_ofNat']; omega
/-- What is put is taken, whatever stands behind. -/
theorem tk_put (k : Nat) : ∀ (n : Nat) (rest : List UInt8), n < 128 ^ (k + 1) → tkN (k + 1) (putN k n ++ rest) = some (n, (putN k n).length) := by
  induction k with
  | zero =>
    intro n rest h
    have h : n < 128 := by simpa using h
    simp [putN, tkN, of_lt (show n < 256 by omega), h]
  | succ k ih =>
    intro n rest h
    by_cases hn : n < 128
    · have e : putN (k + 1) n = [UInt8.ofNat n] := by unfold putN; rw [if_pos hn]
      rw [e]
      simp [tkN, of_lt (show n < 256 by omega), hn]
    · have e : putN (k + 1) n = UInt8.ofNat (128 + n % 128) :: putN k (n / 128) := by conv => lhs; unfold putN; rw [if_neg hn]
      have hd : n / 128 < 128 ^ (k + 1) := by rw [Nat.div_lt_iff_lt_mul (by omega)]; rw [Nat.pow_succ] at h; exact h
      have ht : (UInt8.ofNat (128 + n % 128)).toNat = 128 + n % 128 := of_lt (by omega)
      rw [e]
      show tkN (k + 1 + 1) (UInt8.ofNat (128 + n % 128) :: (putN k (n / 128) ++ rest)) = _
      unfold tkN
      rw [if_neg (by rw [ht]; omega), ih _ _ hd, ht]
      simp
      omega
/-- What is taken, as it was put: its value, and how long it is. -/
theorem tk_some (k : Nat) : ∀ (bs : List UInt8) (n m : Nat), tkN k bs = some (n, m) → 1 ≤ m ∧ m ≤ k ∧ m ≤ bs.length ∧ n < 128 ^ m ∧ (∀ j, j + 1 < m → 128 ≤ (bs.getD j 0).toNat) ∧ (bs.getD (m - 1) 0).toNat < 128 ∧ ((bs.getD (m - 1) 0).toNat = 0 ↔ n < 128 ^ (m - 1)) := by
  induction k with
  | zero => intro bs n m h; simp [tkN] at h
  | succ k ih =>
    intro bs n m h
    match bs with
    | [] => simp [tkN] at h
    | d :: ds =>
      unfold tkN at h
      by_cases hd : d.toNat < 128
      · rw [if_pos hd] at h
        simp only [Option.some.injEq, Prod.mk.injEq] at h
        obtain ⟨rfl, rfl⟩ := h
        refine ⟨by omega, by omega, by simp, by simpa using hd, fun j hj => by omega, by simpa using hd, by simp⟩
      · rw [if_neg hd] at h
        simp only [Option.map_eq_some_iff] at h
        obtain ⟨⟨n', m'⟩, h1, h2⟩ := h
        simp only [Prod.mk.injEq] at h2
        obtain ⟨rfl, rfl⟩ := h2
        obtain ⟨a1, a2, a3, a4, a5, a6, a7⟩ := ih ds n' m' h1
        obtain ⟨q, rfl⟩ : ∃ q, m' = q + 1 := ⟨m' - 1, by omega⟩
        have e1 : (128 : Nat) ^ (q + 1 + 1) = 128 * 128 ^ (q + 1) := by rw [Nat.pow_succ, Nat.mul_comm]
        have hmod : d.toNat % 128 < 128 := Nat.mod_lt _ (by omega)
        refine ⟨by omega, by omega, by simp; omega, by omega, fun j hj => ?_, by simpa using a6, ?_⟩
        · cases j with
          | zero => simp; omega
          | succ j => simpa using a5 j (by omega)
        · simp only [Nat.add_sub_cancel] at a7 ⊢
          have e3 : ((d :: ds).getD (q + 1) 0) = ds.getD q 0 := by simp
          rw [e3]
          have e2 : (128 : Nat) ^ (q + 1) = 128 * 128 ^ q := by rw [Nat.pow_succ, Nat.mul_comm]
          rw [a7, e2]
          generalize (128 : Nat) ^ q = p at *
          omega
/-- How long what is put is. -/
theorem put_len_is (k : Nat) : ∀ (n m : Nat), n < 128 ^ (k + 1) → 1 ≤ m → m ≤ k + 1 → ((putN k n).length = m ↔ n < 128 ^ m ∧ (m = 1 ∨ 128 ^ (m - 1) ≤ n)) := by
  induction k with
  | zero =>
    intro n m h h1 h2
    obtain rfl : m = 1 := by omega
    simpa [putN] using h
  | succ k ih =>
    intro n m h h1 h2
    by_cases hn : n < 128
    · have e : putN (k + 1) n = [UInt8.ofNat n] := by unfold putN; rw [if_pos hn]
      rw [e]
      simp only [List.length_singleton]
      constructor
      · rintro rfl; exact ⟨by simpa using hn, .inl rfl⟩
      · rintro ⟨_, h3 | h3⟩
        · exact h3.symm
        · obtain ⟨q, rfl⟩ : ∃ q, m = q + 1 := ⟨m - 1, by omega⟩
          cases q with
          | zero => rfl
          | succ q =>
            simp only [Nat.add_sub_cancel] at h3
            have : (128 : Nat) ^ 1 ≤ 128 ^ (q + 1) := Nat.pow_le_pow_right (by omega) (by omega)
            omega
    · have e : putN (k + 1) n = UInt8.ofNat (128 + n % 128) :: putN k (n / 128) := by conv => lhs; unfold putN; rw [if_neg hn]
      have hd : n / 128 < 128 ^ (k + 1) := by rw [Nat.div_lt_iff_lt_mul (by omega)]; rw [Nat.pow_succ] at h; exact h
      rw [e]
      simp only [List.length_cons]
      obtain ⟨q, rfl⟩ : ∃ q, m = q + 1 := ⟨m - 1, by omega⟩
      cases q with
      | zero =>
        have h1 := (putN_len k (n / 128)).1
        rw [show (128 : Nat) ^ (0 + 1) = 128 from rfl]
        constructor
        · intro h2; omega
        · intro h2; omega
      | succ q =>
        have := ih (n / 128) (q + 1) hd (by omega) (by omega)
        simp only [Nat.add_sub_cancel] at this ⊢
        rw [show ((putN k (n / 128)).length + 1 = q + 1 + 1) ↔ ((putN k (n / 128)).length = q + 1) by omega, this, Nat.div_lt_iff_lt_mul (by omega), Nat.pow_succ 128 (q + 1)]
        constructor
        · rintro ⟨x1, x2⟩
          refine ⟨x1, .inr ?_⟩
          rcases x2 with x2 | x2
          · obtain rfl : q = 0 := by omega
            simp; omega
          · rw [Nat.le_div_iff_mul_le (by omega)] at x2
            rw [Nat.pow_succ]; exact x2
        · rintro ⟨x1, x2⟩
          refine ⟨x1, ?_⟩
          rcases x2 with x2 | x2
          · omega
          · cases q with
            | zero => exact .inl rfl
            | succ q => right; rw [Nat.le_div_iff_mul_le (by omega), ← Nat.pow_succ]; exact x2
/-- What was taken, and has as few bytes as it needs, is what is put. -/
theorem put_tk (k : Nat) : ∀ (bs : List UInt8) (n m : Nat), tkN (k + 1) bs = some (n, m) → (putN k n).length = m → bs.take m = putN k n := by
  induction k with
  | zero =>
    intro bs n m h hl
    match bs with
    | [] => simp [tkN] at h
    | d :: ds =>
      simp only [tkN] at h
      by_cases hd : d.toNat < 128
      · rw [if_pos hd] at h
        simp only [Option.some.injEq, Prod.mk.injEq] at h
        obtain ⟨rfl, rfl⟩ := h
        simp [putN]
      · rw [if_neg hd] at h; simp at h
  | succ k ih =>
    intro bs n m h hl
    match bs with
    | [] => simp [tkN] at h
    | d :: ds =>
      unfold tkN at h
      by_cases hd : d.toNat < 128
      · rw [if_pos hd] at h
        simp only [Option.some.injEq, Prod.mk.injEq] at h
        obtain ⟨rfl, rfl⟩ := h
        have e : putN (k + 1) d.toNat = [UInt8.ofNat d.toNat] := by unfold putN; rw [if_pos hd]
        rw [e]
        simp
      · rw [if_neg hd] at h
        simp only [Option.map_eq_some_iff] at h
        obtain ⟨⟨n', m'⟩, h1, h2⟩ := h
        simp only [Prod.mk.injEq] at h2
        obtain ⟨rfl, rfl⟩ := h2
        have hm := (tk_some (k + 1) ds n' m' h1).1
        have hmod : d.toNat % 128 < 128 := Nat.mod_lt _ (by omega)
        have hn : ¬ d.toNat % 128 + 128 * n' < 128 := by
          intro hlt
          have e : putN (k + 1) (d.toNat % 128 + 128 * n') = [UInt8.ofNat (d.toNat % 128 + 128 * n')] := by unfold putN; rw [if_pos hlt]
          rw [e] at hl
          simp at hl
          omega
        have e : putN (k + 1) (d.toNat % 128 + 128 * n') = UInt8.ofNat (128 + (d.toNat % 128 + 128 * n') % 128) :: putN k ((d.toNat % 128 + 128 * n') / 128) := by conv => lhs; unfold putN; rw [if_neg hn]
        have e1 : (d.toNat % 128 + 128 * n') % 128 = d.toNat % 128 := by omega
        have e2 : (d.toNat % 128 + 128 * n') / 128 = n' := by omega
        rw [e, e1, e2] at hl ⊢
        simp only [List.length_cons, Nat.add_right_cancel_iff] at hl
        have := ih ds n' m' h1 hl
        rw [List.take_succ_cons, this]
        congr 1
        have hb := UInt8.toNat_lt d
        rw [show 128 + d.toNat % 128 = d.toNat by omega]
        simp

def inV (n : Int) : Int := min (max n 0) 18014398509481984
/-- The bytes of a number. -/
def putL (n : Nat) : List UInt8 := putN 7 n
def putS (n : Int) : ByteArray := ⟨(putL (inV n).toNat).toArray⟩
/-- The number that stands in a text from a place on, and how many bytes it has. -/
def tkL (bs : List UInt8) : Option (Nat × Nat) := (tkN 8 bs).bind fun p => if p.1 ≤ 18014398509481984 ∧ (putL p.1).length = p.2 then some p else none
def tkA (bs : List UInt8) (a : Int) : Option (Nat × Nat) := if 0 ≤ a ∧ a < bs.length then tkL (bs.drop a.toNat) else none
def tkV (bs : List UInt8) (a : Int) : Int := match tkA bs a with | some p => (p.1 : Int) | none => 0
def tkE (bs : List UInt8) (a : Int) : Int := match tkA bs a with | some p => a + (p.2 : Int) | none => 0
def tkO (bs : List UInt8) (a : Int) : Bool := (tkA bs a).isSome
def zgV (n : Int) : Int := if clV n < 0 then -2 * clV n - 1 else 2 * clV n
def zaV (n : Int) : Int := if inV n % 2 = 0 then inV n / 2 else -((inV n + 1) / 2)
theorem inV_bd (n : Int) : 0 ≤ inV n ∧ inV n ≤ 18014398509481984 := by unfold inV; omega
theorem put_lt {n : Nat} (h : n ≤ 18014398509481984) : n < 128 ^ 8 := by have : (128 : Nat) ^ 8 = 72057594037927936 := by decide
                                                                         omega
end Go.Proofs.Ythijabhnmjbboaa
