/- Times as texts: the mathematics (of no program). -/
import Derived.Lib.ItoaLen
import Derived.Lib.AtoiTie
import Derived.Lib.Bytealg
namespace Go.Proofs.YtmidgdmgekbmcaaDoor
set_option maxRecDepth 100000
open Go.Lib
set_option linter.unusedVariables false
set_option linter.unusedSimpArgs false

def isDig (c : UInt8) : Prop := 48 ≤ c.toNat ∧ c.toNat ≤ 57
theorem dig_of (n : Nat) (h : n < 10) : isDig (UInt8.ofNat (48 + n)) ∧ (UInt8.ofNat (48 + n)).toNat = 48 + n := by
  have e : (UInt8.ofNat (48 + n)).toNat = 48 + n := by rw [UInt8.toNat_ofNat']; omega
  exact ⟨⟨by omega, by omega⟩, e⟩
theorem dec_digs (n : Nat) : ∀ c ∈ decDigits n, isDig c := by
  induction n using Nat.strongRecOn with
  | _ n ih =>
    intro c hc
    rw [decDigits] at hc
    split at hc
    · rw [List.mem_singleton] at hc; subst hc; exact (dig_of n (by omega)).1
    · rcases List.mem_append.1 hc with h | h
      · exact ih (n / 10) (by omega) c h
      · rw [List.mem_singleton] at h; subst h; exact (dig_of (n % 10) (by omega)).1
theorem decFrom_app : ∀ (a b : List UInt8) (acc m : Nat), decFrom acc a = some m → decFrom acc (a ++ b) = decFrom m b
  | [], b, acc, m, h => by simp only [decFrom, Option.some.injEq] at h; subst h; rfl
  | x :: r, b, acc, m, h => by
    simp only [decFrom, List.cons_append] at h ⊢
    cases hd : digitVal x with
    | none => rw [hd] at h; cases h
    | some d => rw [hd] at h; exact decFrom_app r b _ m h
theorem decFrom_one (acc d : Nat) (h : d < 10) : decFrom acc [UInt8.ofNat (48 + d)] = some (acc * 10 + d) := by
  have ⟨h1, h2⟩ := dig_of d h
  simp only [decFrom, digitVal, h2]
  rw [if_pos ⟨by omega, by omega⟩]
  simp
theorem decFrom_dec (n : Nat) : decFrom 0 (decDigits n) = some n := by
  induction n using Nat.strongRecOn with
  | _ n ih =>
    rw [decDigits]
    split
    · rw [decFrom_one 0 n (by omega)]; simp
    · rw [decFrom_app _ _ 0 (n / 10) (ih (n / 10) (by omega)), decFrom_one _ _ (by omega)]
      congr 1; omega
theorem dec_ne (n : Nat) : decDigits n ≠ [] := by
  rw [decDigits]; split <;> simp
theorem atoi_digs {l : List UInt8} {n : Nat} (hl : l.length ≤ 18) (hd : ∀ c ∈ l, isDig c) (hn : l ≠ []) (h : decFrom 0 l = some n) : atoiAll l = .ok (n : Int) := by
  rw [atoiAll_short l hl]
  match l, hn with
  | c :: r, _ =>
    have hc := hd c (by simp)
    have h1 : (c == 45) = false := by rw [beq_eq_false_iff_ne]; rintro rfl; exact absurd hc.1 (by decide)
    have h2 : (c == 43) = false := by rw [beq_eq_false_iff_ne]; rintro rfl; exact absurd hc.1 (by decide)
    simp only [atoi, h1, h2]
    simp [decNat, h, NumEnd.ofOption]
theorem nd_le : ∀ (k n : Nat), 1 ≤ k → n < 10 ^ k → nDigits n ≤ k
  | 0, n, h, _ => absurd h (by omega)
  | 1, n, _, h => by rw [nDigits_small (by simpa using h)]; exact Nat.le_refl _
  | k + 2, n, _, h => by
    by_cases hs : n < 10
    · rw [nDigits_small hs]; omega
    · rw [nDigits_big hs]
      have := nd_le (k + 1) (n / 10) (by omega) (by rw [Nat.pow_succ] at h; omega)
      omega
theorem nd_mono {n m : Nat} (h : n ≤ m) : nDigits n ≤ nDigits m := nd_le _ _ (nDigits_pos m) (Nat.lt_of_le_of_lt h (lt_pow_nDigits m))

/-! ### the order of texts -/
open Go.Op in
theorem less_irr : ∀ a : List UInt8, bytesLess a a = false
  | [] => rfl
  | x :: a => by simp [bytesLess, less_irr a]
open Go.Op in
theorem less_pre : ∀ (p a b : List UInt8), bytesLess (p ++ a) (p ++ b) = bytesLess a b
  | [], _, _ => rfl
  | x :: p, a, b => by simp [bytesLess, less_pre p a b]
open Go.Op in
theorem less_app : ∀ (a b p q : List UInt8), a.length = b.length → bytesLess a b = true → bytesLess (a ++ p) (b ++ q) = true
  | [], [], _, _, _, h => by simp [bytesLess] at h
  | [], _ :: _, _, _, hl, _ => by simp at hl
  | _ :: _, [], _, _, hl, _ => by simp at hl
  | x :: a, y :: b, p, q, hl, h => by
    simp only [bytesLess, List.cons_append, Bool.or_eq_true, Bool.and_eq_true] at h ⊢
    rcases h with h | ⟨h1, h2⟩
    · exact .inl h
    · exact .inr ⟨h1, less_app a b p q (by simpa using hl) h2⟩
open Go.Op in
theorem less_cons (x : UInt8) (a b : List UInt8) : bytesLess (x :: a) (x :: b) = bytesLess a b := by simp [bytesLess]
open Go.Op in
theorem less_dig (d e : Nat) (hd : d < e) (he : e < 10) : bytesLess [UInt8.ofNat (48 + d)] [UInt8.ofNat (48 + e)] = true := by
  have h1 := (dig_of d (by omega)).2
  have h2 := (dig_of e he).2
  have h3 : UInt8.ofNat (48 + d) < UInt8.ofNat (48 + e) := by rw [UInt8.lt_iff_toNat_lt]; omega
  unfold bytesLess; rw [decide_eq_true h3]; rfl
theorem dec_big {n : Nat} (h : ¬ n < 10) : decDigits n = decDigits (n / 10) ++ [UInt8.ofNat (48 + n % 10)] := by rw [decDigits, dif_neg h]
open Go.Op in
theorem less_dec (n : Nat) : ∀ m, n < m → nDigits n = nDigits m → bytesLess (decDigits n) (decDigits m) = true := by
  induction n using Nat.strongRecOn with
  | _ n ih =>
    intro m hm hk
    by_cases h1 : m < 10
    · rw [decDigits_one (by omega), decDigits_one h1]
      exact less_dig n m hm h1
    · have h2 : ¬ n < 10 := by
        intro h
        rw [nDigits_small h, nDigits_big h1] at hk
        have := nDigits_pos (m / 10)
        omega
      rw [nDigits_big h2, nDigits_big h1] at hk
      rw [dec_big h2, dec_big h1]
      rcases Nat.lt_or_ge (n / 10) (m / 10) with h | h
      · exact less_app _ _ _ _ (by rw [decDigits_length, decDigits_length]; omega) (ih (n / 10) (by omega) (m / 10) h (by omega))
      · have e : n / 10 = m / 10 := by omega
        rw [e, less_pre]
        exact less_dig _ _ (by omega) (by omega)

/-! ### two digits -/
def two (n : Nat) : List UInt8 := decDigits (n / 10) ++ decDigits (n % 10)
theorem two_is {n : Nat} (h : n < 100) : two n = [UInt8.ofNat (48 + n / 10), UInt8.ofNat (48 + n % 10)] := by
  unfold two; rw [decDigits_one (by omega), decDigits_one (by omega)]; rfl
theorem two_len {n : Nat} (h : n < 100) : (two n).length = 2 := by rw [two_is h]; rfl
theorem two_digs (n : Nat) : ∀ c ∈ two n, isDig c := by
  intro c hc
  rcases List.mem_append.1 hc with h | h <;> exact dec_digs _ c h
theorem two_num {n : Nat} (h : n < 100) : decFrom 0 (two n) = some n := by
  unfold two
  rw [decFrom_app _ _ 0 (n / 10) (decFrom_dec _), decDigits_one (by omega), decFrom_one _ _ (by omega)]
  congr 1; omega
theorem two_atoi {n : Nat} (h : n < 100) : atoiAll (two n) = .ok (n : Int) :=
  atoi_digs (by rw [two_len h]; omega) (two_digs n) (by rw [two_is h]; simp) (two_num h)
theorem dec_atoi {n : Nat} (h : n < 10 ^ 18) : atoiAll (decDigits n) = .ok (n : Int) :=
  atoi_digs (by rw [decDigits_length]; exact nd_le 18 n (by omega) h) (dec_digs n) (dec_ne n) (decFrom_dec n)
open Go.Op in
theorem two_less {n m : Nat} (h : n < m) (hm : m < 100) : bytesLess (two n) (two m) = true := by
  rw [two_is hm, two_is (by omega)]
  rcases Nat.lt_or_ge (n / 10) (m / 10) with h1 | h1
  · exact less_app [_] [_] [_] [_] rfl (less_dig _ _ h1 (by omega))
  · have e : n / 10 = m / 10 := by omega
    rw [e, less_cons]
    exact less_dig _ _ (by omega) (by omega)

/-! ### the text of a time -/
def tailL (t : Nat) : List UInt8 := 58 :: (two (t % 360000 / 6000) ++ 58 :: (two (t % 6000 / 100) ++ 46 :: two (t % 100)))
def txL (t : Nat) : List UInt8 := decDigits (t / 360000) ++ tailL t
theorem tail_len (t : Nat) : (tailL t).length = 9 := by
  unfold tailL
  simp [two_len (show t % 360000 / 6000 < 100 by omega), two_len (show t % 6000 / 100 < 100 by omega), two_len (show t % 100 < 100 by omega)]
theorem tx_len (t : Nat) : (txL t).length = nDigits (t / 360000) + 9 := by unfold txL; rw [List.length_append, tail_len, decDigits_length]
theorem tx_len_le {t : Nat} (h : t ≤ 1099511627776) : (txL t).length ≤ 16 := by
  rw [tx_len]
  have := nd_le 7 (t / 360000) (by omega) (by omega)
  omega
open Go.Op in
theorem tx_rises {x y : Nat} (h : x < y) : (txL x).length ≤ (txL y).length ∧ ((txL x).length = (txL y).length → bytesLess (txL x) (txL y) = true) := by
  have hm := nd_mono (show x / 360000 ≤ y / 360000 by omega)
  refine ⟨by rw [tx_len, tx_len]; omega, fun he => ?_⟩
  rw [tx_len, tx_len] at he
  unfold txL
  rcases Nat.lt_or_ge (x / 360000) (y / 360000) with h1 | h1
  · exact less_app _ _ _ _ (by rw [decDigits_length, decDigits_length]; omega) (less_dec _ _ h1 (by omega))
  · have e : x / 360000 = y / 360000 := by omega
    rw [e, less_pre]
    unfold tailL
    rw [less_cons]
    rcases Nat.lt_or_ge (x % 360000 / 6000) (y % 360000 / 6000) with h2 | h2
    · exact less_app _ _ _ _ (by rw [two_len (by omega), two_len (by omega)]) (two_less h2 (by omega))
    · have e2 : x % 360000 / 6000 = y % 360000 / 6000 := by omega
      rw [e2, less_pre]
      rw [less_cons]
      rcases Nat.lt_or_ge (x % 6000 / 100) (y % 6000 / 100) with h3 | h3
      · exact less_app _ _ _ _ (by rw [two_len (by omega), two_len (by omega)]) (two_less h3 (by omega))
      · have e3 : x % 6000 / 100 = y % 6000 / 100 := by omega
        rw [e3, less_pre]
        rw [less_cons]
        exact two_less (by omega) (by omega)

/-! ### cut at a byte -/
def cutA (l : List UInt8) (c : UInt8) : List UInt8 := if 0 ≤ indexByte l c then l.take (indexByte l c).toNat else l
def cutB (l : List UInt8) (c : UInt8) : List UInt8 := if 0 ≤ indexByte l c then l.drop ((indexByte l c).toNat + 1) else []
theorem index_at (a b : List UInt8) (c : UInt8) (h : c ∉ a) : indexByte (a ++ c :: b) c = a.length := by
  induction a with
  | nil => simp [indexByte]
  | cons x a ih =>
    have hx : (x == c) = false := by rw [beq_eq_false_iff_ne]; rintro rfl; simp at h
    have ih := ih (by intro hc; exact h (by simp [hc]))
    simp only [List.cons_append, indexByte, hx, ih]
    have : ((a.length : Int) == -1) = false := by rw [beq_eq_false_iff_ne]; omega
    simp [this]
theorem cutA_at (a b : List UInt8) (c : UInt8) (h : c ∉ a) : cutA (a ++ c :: b) c = a := by
  unfold cutA; rw [index_at a b c h, if_pos (by omega)]; simp
theorem cutB_at (a b : List UInt8) (c : UInt8) (h : c ∉ a) : cutB (a ++ c :: b) c = b := by
  unfold cutB; rw [index_at a b c h, if_pos (by omega)]
  rw [show ((a.length : Int).toNat + 1) = a.length + 1 by omega, List.drop_append]; simp
theorem not_digs {a : List UInt8} (h : ∀ c ∈ a, isDig c) (c : UInt8) (hc : ¬ isDig c) : c ∉ a := fun h1 => hc (h c h1)
theorem index_lt : ∀ (l : List UInt8) (c : UInt8), indexByte l c < l.length ∨ indexByte l c = -1
  | [], c => by right; rfl
  | x :: l, c => by
    simp only [indexByte]
    split
    · left; simp
    · split
      · right; rfl
      · rcases index_lt l c with h | h
        · left; simp; omega
        · rename_i h1 h2; rw [h] at h2; simp at h2

/-! ### what is read back -/
def numV (l : List UInt8) : Int := match atoiAll l with
  | .ok v => v
  | .syntax => 0
  | .range => atoiSat l
theorem numV_ok {l : List UInt8} {v : Int} (h : atoiAll l = .ok v) : numV l = v := by unfold numV; rw [h]
def hA (l : List UInt8) : List UInt8 := cutA l 58
def hB (l : List UInt8) : List UInt8 := cutA (cutB l 58) 58
def hC (l : List UInt8) : List UInt8 := cutA (cutB (cutB l 58) 58) 46
def hD (l : List UInt8) : List UInt8 := cutB (cutB (cutB l 58) 58) 46
theorem tx_parts (t : Nat) (h : t ≤ 1099511627776) : numV (hA (txL t)) = (t / 360000 : Nat) ∧ numV (hB (txL t)) = (t % 360000 / 6000 : Nat) ∧ numV (hC (txL t)) = (t % 6000 / 100 : Nat) ∧ numV (hD (txL t)) = (t % 100 : Nat) := by
  have n58 : ¬ isDig 58 := by unfold isDig; decide
  have n46 : ¬ isDig 46 := by unfold isDig; decide
  have a1 := not_digs (dec_digs (t / 360000)) 58 n58
  have a2 := not_digs (two_digs (t % 360000 / 6000)) 58 n58
  have a3 := not_digs (two_digs (t % 6000 / 100)) 46 n46
  unfold hA hB hC hD txL tailL
  rw [cutA_at _ _ _ a1, cutB_at _ _ _ a1, cutA_at _ _ _ a2, cutB_at _ _ _ a2, cutA_at _ _ _ a3, cutB_at _ _ _ a3]
  exact ⟨numV_ok (dec_atoi (by omega)), numV_ok (two_atoi (by omega)), numV_ok (two_atoi (by omega)), numV_ok (two_atoi (by omega))⟩
/-- A tick as it counts. -/
def ckN (t : Int) : Nat := (min (max t 0) 1099511627776).toNat
theorem ck_le (t : Int) : ckN t ≤ 1099511627776 := by unfold ckN; omega
theorem ck_id {t : Nat} (h : t ≤ 1099511627776) : ckN t = t := by unfold ckN; omega
theorem tx_sum (t : Nat) : (t / 360000) * 360000 + (t % 360000 / 6000) * 6000 + (t % 6000 / 100) * 100 + t % 100 = t := by omega
theorem tx_inj {x y : Nat} (hx : x ≤ 1099511627776) (hy : y ≤ 1099511627776) (h : txL x = txL y) : x = y := by
  have h1 := tx_parts x hx
  rw [h] at h1
  have h2 := tx_parts y hy
  have s1 := tx_sum x
  have s2 := tx_sum y
  omega
/-- Is a text a time's? Which one's? -/
def IsTx (l : List UInt8) (t : Nat) : Prop := t ≤ 1099511627776 ∧ l = txL t
end Go.Proofs.YtmidgdmgekbmcaaDoor
