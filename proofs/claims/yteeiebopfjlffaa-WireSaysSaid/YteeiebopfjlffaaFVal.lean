/- Floats, second half: differences, wholes and kinds in units; the plain answers of stage 3. -/
import Derived.Test.YteeiebopfjlffaaFNum
import Derived.Test.YteeiebopfjlffaaSat
namespace Go.Proofs.Yteeiebopfjlffaa
set_option maxRecDepth 100000
open Ieee
set_option linter.unusedVariables false
set_option linter.unusedSimpArgs false

theorem SZ : 0 < (S : Int) := by exact_mod_cast S_pos
theorem HZ : 0 < (HALF : Int) := by exact_mod_cast HALF_pos
theorem S2 : (S : Int) = 2 * (HALF : Int) := by exact_mod_cast S_half
def BIG : Nat := mgR 9218868437227405312

theorem V_bd {x : Nat} (h : nanB x = false) : -(BIG : Int) ≤ V x ∧ V x ≤ BIG := by
  have h' : rg x ≤ 9218868437227405312 := by simpa [nanB] using h
  have := mgR_le h'
  unfold V sn BIG
  split <;> omega
theorem fin_nan {x : Nat} (h : finB x = true) : nanB x = false := by
  simp [finB] at h; simp [nanB]; omega
theorem V_abs (x : Nat) : (V x).natAbs = mg x := by
  rw [V_mg]; unfold sn; split <;> omega

/-! ### Representable counts. -/
theorem rep {k t : Nat} (hk : k ≤ 9007199254740992) (ht : t ≤ 2000) : ∃ r, r < 9218868437227405312 ∧ mgR r = k * 2 ^ t := by
  by_cases c0 : k = 0
  · subst c0; exact ⟨0, by omega, by rw [mgR_zero, Nat.zero_mul]⟩
  · by_cases c1 : k = 9007199254740992
    · subst c1
      exact ⟨t * 4503599627370496 + 9007199254740992, by omega, mgR_at t _ (by omega) (by omega)⟩
    · have h1 := Nat.log2_self_le c0
      have h2 : k < 2 ^ (k.log2 + 1) := Nat.lt_log2_self
      have h3 : k.log2 < 53 := (Nat.log2_lt c0).2 (by omega)
      rcases Nat.le_total (52 - k.log2) t with c | c
      · have h4 : 2 ^ k.log2 * 2 ^ (52 - k.log2) ≤ k * 2 ^ (52 - k.log2) := Nat.mul_le_mul_right _ h1
        have h5 : k * 2 ^ (52 - k.log2) < 2 ^ (k.log2 + 1) * 2 ^ (52 - k.log2) := Nat.mul_lt_mul_of_pos_right h2 (Nat.two_pow_pos _)
        rw [← Nat.pow_add, show k.log2 + (52 - k.log2) = 52 by omega] at h4
        rw [← Nat.pow_add, show k.log2 + 1 + (52 - k.log2) = 53 by omega] at h5
        have h6 := mgR_at (t - (52 - k.log2)) (k * 2 ^ (52 - k.log2)) (by omega) (by omega)
        refine ⟨_, ?_, h6.trans ?_⟩
        · omega
        · rw [Nat.mul_assoc, ← Nat.pow_add]
          congr 2; omega
      · have h5 : k * 2 ^ t < 2 ^ (k.log2 + 1) * 2 ^ t := Nat.mul_lt_mul_of_pos_right h2 (Nat.two_pow_pos _)
        rw [← Nat.pow_add] at h5
        have h7 : 2 ^ (k.log2 + 1 + t) ≤ 2 ^ 53 := Nat.pow_le_pow_right (by omega) (by omega)
        have h6 := mgR_at 0 (k * 2 ^ t) (by omega) (Or.inl rfl)
        exact ⟨_, by omega, h6.trans (by omega)⟩

/-! ### Differences. -/
theorem sub_fin {x y : Nat} (hx : finB x = true) (hy : finB y = true) :
    ∃ s w, double.sub x y = some w ∧ w = double.word s (rung (V x - V y).natAbs) ∧ (s = true → V x - V y ≤ 0) ∧ (s = false → 0 ≤ V x - V y) := by
  have cx : rg x < 9218868437227405312 := by simpa [finB] using hx
  have cy : rg y < 9218868437227405312 := by simpa [finB] using hy
  unfold Format.sub
  rw [read_fin cx, read_fin cy]
  simp only [Datum.opposite, Datum.sum, Option.map_some]
  unfold V mgR
  generalize ex (rg x) = a, ex (rg y) = b, sig (rg x) = m, sig (rg y) = n
  have e1 : (((-1074 : Int) + (a : Int)) - min ((-1074 : Int) + (a : Int)) (-1074 + (b : Int))).toNat = a - min a b := by omega
  have e2 : (((-1074 : Int) + (b : Int)) - min ((-1074 : Int) + (a : Int)) (-1074 + (b : Int))).toNat = b - min a b := by omega
  have e3 : min ((-1074 : Int) + (a : Int)) (-1074 + (b : Int)) = -1074 + ((min a b : Nat) : Int) := by omega
  rw [e1, e2, e3, signed_eq, signed_eq]
  have p1 : m * 2 ^ a = m * 2 ^ (a - min a b) * 2 ^ (min a b) := by rw [Nat.mul_assoc, ← Nat.pow_add]; congr 2; omega
  have p2 : n * 2 ^ b = n * 2 ^ (b - min a b) * 2 ^ (min a b) := by rw [Nat.mul_assoc, ← Nat.pow_add]; congr 2; omega
  have hn : sn (!sgn y) (n * 2 ^ (b - min a b)) = - sn (sgn y) (n * 2 ^ (b - min a b)) := by unfold sn; cases sgn y <;> simp
  have hD : sn (sgn x) (m * 2 ^ a) - sn (sgn y) (n * 2 ^ b) = (sn (sgn x) (m * 2 ^ (a - min a b)) + sn (!sgn y) (n * 2 ^ (b - min a b))) * ((2 ^ min a b : Nat) : Int) := by
    rw [p1, p2, sn_mul _ (m * 2 ^ (a - min a b)), sn_mul _ (n * 2 ^ (b - min a b)), hn, Int.add_mul, Int.neg_mul]
    omega
  rw [hD]
  generalize sn (sgn x) (m * 2 ^ (a - min a b)) + sn (!sgn y) (n * 2 ^ (b - min a b)) = T
  have hp : 0 < ((2 ^ min a b : Nat) : Int) := by exact_mod_cast Nat.two_pow_pos _
  refine ⟨(if T = 0 then (sgn x && !sgn y) else decide (T < 0)), _, rfl, ?_, ?_, ?_⟩
  · show double.nearest _ _ _ = _
    rw [nearest_eq, Int.natAbs_mul, Int.natAbs_natCast]
  · intro h
    have : T ≤ 0 := by
      split at h
      · omega
      · have := of_decide_eq_true h; omega
    exact Int.mul_nonpos_of_nonpos_of_nonneg this (Int.le_of_lt hp)
  · intro h
    have : 0 ≤ T := by
      split at h
      · omega
      · have := of_decide_eq_false h; omega
    exact Int.mul_nonneg this (Int.le_of_lt hp)

def HALFw : Nat := 4602678819172646912
theorem half_mg : mgR 4602678819172646912 = HALF := by
  rw [show (4602678819172646912 : Nat) = (K - 52) * 4503599627370496 + 4503599627370496 by rw [K_eq], mgR_at (K - 52) 4503599627370496 (by omega) (by omega)]
  have e : (4503599627370496 : Nat) = 2 ^ 52 := by decide +kernel
  rw [e, ← Nat.pow_add]
  unfold HALF
  congr 1
  rw [K_eq]
theorem half_V : V 4602678819172646912 = HALF := by
  have h1 : sgn 4602678819172646912 = false := by decide +kernel
  have h2 : rg 4602678819172646912 = 4602678819172646912 := by decide +kernel
  unfold V
  rw [h1, h2, half_mg]; rfl
theorem mhalf_V : V 13826050856027422720 = -(HALF : Int) := by
  have h1 : sgn 13826050856027422720 = true := by decide +kernel
  have h2 : rg 13826050856027422720 = 4602678819172646912 := by decide +kernel
  unfold V
  rw [h1, h2, half_mg]; rfl
theorem half_nan : nanB 4602678819172646912 = false := by decide +kernel
theorem mhalf_nan : nanB 13826050856027422720 = false := by decide +kernel

/-- A difference's word. -/
theorem sub_word {x y : Nat} (hx : finB x = true) (hy : finB y = true) :
    ∃ w, floatBits .sub .f64 x y = some w ∧ nanB w = false ∧
      ((V x - V y).natAbs ≤ HALF → -(HALF : Int) ≤ V w ∧ V w ≤ HALF) ∧
      ((HALF : Int) ≤ V x - V y → (HALF : Int) ≤ V w) ∧
      (∀ r, r < 9218868437227405312 → mgR r = (V x - V y).natAbs → V w = V x - V y) := by
  obtain ⟨s, w, h1, h2, h3, h4⟩ := sub_fin hx hy
  have hg := rg_word s (rung_lt63 (V x - V y).natAbs)
  have hs := sgn_word s (rung_lt63 (V x - V y).natAbs)
  rw [← h2] at hg hs
  have hV : V w = sn s (mgR (rung (V x - V y).natAbs)) := by rw [V_mg w]; unfold mg; rw [hg, hs]
  refine ⟨w, h1, ?_, ?_, ?_, ?_⟩
  · have := rung_inf (V x - V y).natAbs
    unfold nanB
    rw [hg]; simp; omega
  · intro h
    have : rung (V x - V y).natAbs ≤ 4602678819172646912 := rung_le (by rw [half_mg]; exact h)
    have := mgR_le this
    rw [half_mg] at this
    rw [hV]; unfold sn; split <;> omega
  · intro h
    have hp := HZ
    have h5 : 4602678819172646912 ≤ rung (V x - V y).natAbs := le_rung (by omega) (by rw [half_mg]; omega)
    have h6 := mgR_le h5
    rw [half_mg] at h6
    have : s = false := by
      cases s
      · rfl
      · have := h3 rfl; omega
    rw [hV, this]
    unfold sn
    simp only [Bool.false_eq_true, if_false]; omega
  · intro r hr hm
    rw [hV, ← hm, rung_exact (by omega), hm]
    unfold sn
    cases s
    · have := h4 rfl
      simp only [Bool.false_eq_true, if_false]; omega
    · have := h3 rfl
      simp only [if_true]; omega

/-! ### Wholes in units. -/
noncomputable def flR (v : Int) : Int := v / S
noncomputable def nrR (v : Int) : Int := if (HALF : Int) < v % S ∨ (v % S = HALF ∧ v / S % 2 = 1) then v / S + 1 else v / S

theorem div_unique {v q r : Int} (h : v = S * q + r) (h0 : 0 ≤ r) (h1 : r < S) : v / S = q ∧ v % S = r := by
  have := (Int.ediv_emod_unique (a := v) (b := S) (q := q) (r := r) SZ).2 ⟨by omega, h0, h1⟩
  exact this
theorem parts (v : Int) : v = S * (v / S) + v % S ∧ 0 ≤ v % S ∧ v % S < S :=
  ⟨(Int.mul_ediv_add_emod v S).symm, Int.emod_nonneg _ (by have := SZ; omega), Int.emod_lt_of_pos _ SZ⟩

theorem fl_eq (x : Nat) : sn (sgn x) (wholeN .down x) = flR (V x) := by
  unfold flR wholeN cutT
  rw [V_mg]
  have hd := Nat.div_add_mod (mg x) S
  have hm := Nat.mod_lt (mg x) S_pos
  generalize mg x / S = q, mg x % S = r at *
  generalize mg x = M at *
  subst hd
  cases sgn x
  · simp only [Bool.false_and, Bool.toNat_false, sn, Bool.false_eq_true, if_false, Nat.add_zero]
    exact ((div_unique (q := q) (r := r) (by push_cast; rfl) (by omega) (by omega)).1).symm
  · by_cases h0 : r = 0
    · subst h0
      simp only [bne_self_eq_false, Bool.and_false, Bool.toNat_false, sn, if_true, Nat.add_zero]
      exact ((div_unique (q := -q) (r := 0) (by push_cast; rw [Int.mul_neg]; omega) (by omega) SZ).1).symm
    · have : (r != 0) = true := by simpa using h0
      simp only [this, Bool.and_true, Bool.toNat_true, sn, if_true]
      exact ((div_unique (q := -((q + 1 : Nat) : Int)) (r := S - r) (by push_cast; rw [Int.mul_neg, Int.mul_add]; omega) (by omega) (by omega)).1).symm

theorem nr_eq (x : Nat) : sn (sgn x) (wholeN .even x) = nrR (V x) := by
  unfold nrR wholeN cutT
  rw [V_mg]
  have hd := Nat.div_add_mod (mg x) S
  have hm := Nat.mod_lt (mg x) S_pos
  have hh := S_half
  have hp := HALF_pos
  generalize mg x / S = q, mg x % S = r at *
  generalize mg x = M at *
  subst hd
  cases sgn x
  · obtain ⟨e1, e2⟩ := div_unique (v := sn false (S * q + r)) (q := q) (r := r) (by simp only [sn, Bool.false_eq_true, if_false]; push_cast; rfl) (by omega) (by omega)
    rw [e1, e2]
    simp only [sn, Bool.false_eq_true, if_false]
    generalize hb : (decide (S < 2 * r) || S == 2 * r && q % 2 == 1) = b
    cases b
    · rw [if_neg]
      · simp
      · simp at hb; omega
    · rw [if_pos]
      · simp
      · simp at hb; omega
  · by_cases h0 : r = 0
    · subst h0
      obtain ⟨e1, e2⟩ := div_unique (v := sn true (S * q + 0)) (q := -q) (r := 0) (by simp only [sn, if_true]; push_cast; rw [Int.mul_neg]; omega) (by omega) SZ
      rw [e1, e2, if_neg (by omega)]
      have : decide (S < 2 * 0) = false := by simp
      have h2 : (S == 2 * 0) = false := by simp; omega
      rw [this, h2]
      simp [sn]
    · obtain ⟨e1, e2⟩ := div_unique (v := sn true (S * q + r)) (q := -((q + 1 : Nat) : Int)) (r := S - r) (by simp only [sn, if_true]; push_cast; rw [Int.mul_neg, Int.mul_add]; omega) (by omega) (by omega)
      rw [e1, e2]
      simp only [sn, if_true]
      generalize hb : (decide (S < 2 * r) || S == 2 * r && q % 2 == 1) = b
      cases b
      · rw [if_pos]
        · simp; omega
        · simp at hb; omega
      · rw [if_neg]
        · simp
        · simp at hb; omega

theorem flR_facts {v : Int} {l h : Int} (h1 : l * S ≤ v) (h2 : v ≤ h * S) : l ≤ flR v ∧ flR v ≤ h ∧ flR v * S ≤ v ∧ v < (flR v + 1) * S := by
  obtain ⟨a, b, c⟩ := parts v
  unfold flR
  refine ⟨?_, ?_, ?_, ?_⟩
  · exact (Int.le_ediv_iff_mul_le SZ).2 h1
  · have := Int.ediv_le_ediv SZ h2
    rwa [Int.mul_ediv_cancel _ (by have := SZ; omega)] at this
  · rw [Int.mul_comm]; omega
  · rw [Int.add_mul, Int.mul_comm]; omega
theorem nrR_facts {v : Int} {l h : Int} (h1 : l * S ≤ v) (h2 : v ≤ h * S) :
    l ≤ nrR v ∧ nrR v ≤ h ∧ (nrR v = flR v ∨ nrR v = flR v + 1) ∧ (v - nrR v * S).natAbs ≤ HALF := by
  obtain ⟨a, b, c⟩ := parts v
  obtain ⟨d, e, f, g⟩ := flR_facts h1 h2
  have hh := S2
  have hp := HZ
  unfold nrR
  unfold flR at *
  rw [Int.mul_comm] at f
  have hlt : v % S ≠ 0 → v / S + 1 ≤ h := by
    intro h0
    have : v / S < h := by
      have h5 : (S : Int) * (v / S) < v := by omega
      rw [Int.mul_comm] at h5
      exact Int.lt_of_mul_lt_mul_right (Int.lt_of_lt_of_le h5 h2) (Int.le_of_lt SZ)
    omega
  split
  · refine ⟨by omega, hlt (by omega), Or.inr rfl, ?_⟩
    rw [Int.add_mul, Int.mul_comm (v / S)]; omega
  · refine ⟨by omega, by omega, Or.inl rfl, ?_⟩
    rw [Int.mul_comm (v / S)]; omega
theorem nrR_mono {v w : Int} (h : v ≤ w) : nrR v ≤ nrR w := by
  have h1 := Int.ediv_le_ediv SZ h
  obtain ⟨a, b, c⟩ := parts v
  obtain ⟨a', b', c'⟩ := parts w
  unfold nrR
  rcases Int.lt_or_eq_of_le h1 with k | k
  · split <;> split <;> omega
  · have k2 : (S : Int) * (v / S) = S * (w / S) := by rw [k]
    split <;> split <;> omega
theorem flR_mono {v w : Int} (h : v ≤ w) : flR v ≤ flR w := Int.ediv_le_ediv SZ h

/-! ### The half that ref03.Near looks at. -/
theorem pow_split (a : Nat) (h : a ≤ K + 1) : 2 ^ (K + 1 - a) * 2 ^ a = S := by
  rw [← Nat.pow_add, ← S_two]; congr 1; omega
theorem rest_rep {x : Nat} (hx : finB x = true) (h : K + 1 ≤ ex (rg x) + 53) : ∃ r, r < 9218868437227405312 ∧ (mgR r : Int) = V x % S := by
  have hr : rg x < 9218868437227405312 := by simpa [finB] using hx
  have he : V x = sn (sgn x) (sig (rg x)) * ((2 ^ ex (rg x) : Nat) : Int) := by rw [V_mg, ← sn_mul]; rfl
  have hE : ex (rg x) ≤ 2045 := by unfold ex; omega
  generalize ex (rg x) = e at *
  generalize sn (sgn x) (sig (rg x)) = m at *
  rcases Nat.le_total e (K + 1) with c | c
  · have h1 : (S : Int) = ((2 ^ (K + 1 - e) : Nat) : Int) * ((2 ^ e : Nat) : Int) := by exact_mod_cast (pow_split e c).symm
    have h2 : V x % S = m % ((2 ^ (K + 1 - e) : Nat) : Int) * ((2 ^ e : Nat) : Int) := by
      have hp : 0 < ((2 ^ e : Nat) : Int) := by exact_mod_cast Nat.two_pow_pos _
      rw [he, h1, Int.mul_comm m, Int.mul_comm ((2 ^ (K + 1 - e) : Nat) : Int), Int.mul_emod_mul_of_pos _ _ hp, Int.mul_comm]
    have hp : 0 < ((2 ^ (K + 1 - e) : Nat) : Int) := by exact_mod_cast Nat.two_pow_pos _
    have h3 := Int.emod_nonneg m (by omega : ((2 ^ (K + 1 - e) : Nat) : Int) ≠ 0)
    have h4 := Int.emod_lt_of_pos m hp
    have h5 : 2 ^ (K + 1 - e) ≤ 2 ^ 53 := Nat.pow_le_pow_right (by omega) (by omega)
    have h5' : ((2 ^ (K + 1 - e) : Nat) : Int) ≤ 9007199254740992 := by
      have : 2 ^ (K + 1 - e) ≤ 9007199254740992 := by omega
      exact Int.ofNat_le.2 this
    obtain ⟨r, a, b⟩ := rep (k := (m % ((2 ^ (K + 1 - e) : Nat) : Int)).toNat) (t := e) (by omega) (by rw [K_eq] at c; omega)
    refine ⟨r, a, ?_⟩
    rw [b, h2, Int.natCast_mul, Int.toNat_of_nonneg h3]
  · refine ⟨0, by omega, ?_⟩
    rw [mgR_zero, he]
    have h1 : ((2 ^ e : Nat) : Int) = ((2 ^ (e - (K + 1)) : Nat) : Int) * S := by
      have : 2 ^ e = 2 ^ (e - (K + 1)) * S := by rw [← S_two, ← Nat.pow_add]; congr 1; omega
      exact_mod_cast this
    rw [h1, ← Int.mul_assoc, Int.mul_emod_left]
    rfl
theorem small_mg {x : Nat} (h : ¬ K + 1 ≤ ex (rg x) + 53) : mg x < HALF := by
  have h1 : sig (rg x) < 2 ^ 53 := by unfold sig; split <;> omega
  have h2 : mg x < 2 ^ 53 * 2 ^ ex (rg x) := Nat.mul_lt_mul_of_pos_right h1 (Nat.two_pow_pos _)
  rw [← Nat.pow_add] at h2
  refine Nat.lt_of_lt_of_le h2 ?_
  unfold HALF
  exact Nat.pow_le_pow_right (by omega) (by omega)

theorem near_test {x n : Nat} (hx : finB x = true) (hn : finB n = true) (hv : V n = V x / S * S) :
    ∃ w, floatBits .sub .f64 x n = some w ∧ nanB w = false ∧
      ((HALF : Int) < V w ∨ (V w = HALF ∧ V x / S % 2 = 1) ↔ (HALF : Int) < V x % S ∨ (V x % S = HALF ∧ V x / S % 2 = 1)) := by
  obtain ⟨w, h1, h2, _, h4, h5⟩ := sub_word hx hn
  refine ⟨w, h1, h2, ?_⟩
  obtain ⟨a, b, c⟩ := parts (V x)
  have hd : V x - V n = V x % S := by rw [hv, Int.mul_comm]; omega
  rw [hd] at h4 h5
  have exact_of : ∀ r, r < 9218868437227405312 → (mgR r : Int) = V x % S → V w = V x % S := fun r hr hm => h5 r hr (by omega)
  by_cases k : K + 1 ≤ ex (rg x) + 53
  · obtain ⟨r, hr, hm⟩ := rest_rep hx k
    rw [exact_of r hr hm]
  · have hs := small_mg k
    have hh := S2
    have hp := HZ
    cases hg : sgn x
    · have e : V x = mg x := by rw [V_mg, hg]; rfl
      obtain ⟨_, e2⟩ := div_unique (v := V x) (q := 0) (r := mg x) (by omega) (by omega) (by omega)
      have hr : rg x < 9218868437227405312 := by simpa [finB] using hx
      rw [exact_of (rg x) hr e2.symm]
    · have e : V x = -(mg x : Int) := by rw [V_mg, hg]; rfl
      by_cases m0 : mg x = 0
      · have : V x % S = 0 := by rw [e, m0]; rfl
        rw [exact_of 0 (by omega) (by rw [mgR_zero, this]; rfl)]
      · obtain ⟨e1, e2⟩ := div_unique (v := V x) (q := -1) (r := S - mg x) (by omega) (by omega) (by omega)
        rw [e1, e2]
        have := h4 (by omega)
        omega

/-! ### The plain answers. -/
def kdV (x : Nat) : Int := if nanB x then 1 else if rg x = 9218868437227405312 then (if sgn x then 2 else 3) else if rg x = 0 then (if sgn x then 4 else 5) else 6
noncomputable def key (x : Nat) : Int := if nanB x then 2 * (BIG : Int) + 1 else 2 * V x - (if rg x = 0 ∧ sgn x = true then 1 else 0)
noncomputable def odV (a b : Nat) : Int := if key a < key b then -1 else if key b < key a then 1 else 0
noncomputable def midV (a b c : Nat) : Nat :=
  if key b < key a then (if key c < key b then b else if key a < key c then a else c) else (if key c < key a then a else if key b < key c then b else c)
def loV (lo : Int) : Int := clV lo
def hiV (lo hi : Int) : Int := if clV hi < clV lo then clV lo else clV hi
noncomputable def tkB (x : Nat) (lo hi : Int) : Bool := nanB x || decide (V x < clV lo * S) || decide (hiV lo hi * S < V x)
noncomputable def tkV (x : Nat) (lo hi : Int) : Int := if nanB x then clV lo else if V x < clV lo * S then clV lo else if hiV lo hi * S < V x then hiV lo hi else flR (V x)
noncomputable def nrV3 (x : Nat) (lo hi : Int) : Int := if nanB x then clV lo else if V x < clV lo * S then clV lo else if hiV lo hi * S < V x then hiV lo hi else nrR (V x)

theorem zero_V {x : Nat} : V x = 0 ↔ rg x = 0 := by
  rw [V_mg]
  unfold mg sn
  constructor
  · intro h
    rcases Nat.eq_zero_or_pos (rg x) with c | c
    · exact c
    · have := mgR_pos c
      split at h <;> omega
  · intro h
    rw [h, mgR_zero]; split <;> rfl
theorem V_zero : V 0 = 0 := zero_V.2 (by decide +kernel)
theorem nan_zero : nanB 0 = false := by decide +kernel
theorem eq0 (x : Nat) : eqF x 0 = decide (rg x = 0) := by
  unfold eqF
  rw [nan_zero, V_zero]
  by_cases h : rg x = 0
  · have : nanB x = false := by unfold nanB; rw [h]; decide
    simp [h, this, zero_V.2 h]
  · have : ¬ V x = 0 := fun k => h (zero_V.1 k)
    simp [h, this]
theorem eq_self (x : Nat) : eqF x x = !nanB x := by unfold eqF; cases nanB x <;> simp
/-- Beyond the greatest number: only infinity. -/
theorem lt_least (x : Nat) : ltF x 18442240474082181119 = (decide (rg x = 9218868437227405312) && sgn x) := by
  have h1 : nanB 18442240474082181119 = false := by decide +kernel
  have h2 : V 18442240474082181119 = -(mgR 9218868437227405311 : Int) := by
    have a : sgn 18442240474082181119 = true := by decide +kernel
    have b : rg 18442240474082181119 = 9218868437227405311 := by decide +kernel
    unfold V; rw [a, b]; rfl
  unfold ltF
  rw [h1, h2]
  cases hn : nanB x
  · have h' : rg x ≤ 9218868437227405312 := by simpa [nanB] using hn
    have := @mgR_lt_iff 9218868437227405311 (rg x)
    rw [Bool.eq_iff_iff]
    unfold V sn
    cases sgn x <;> simp <;> omega
  · have : 9218868437227405312 < rg x := by simpa [nanB] using hn
    rw [Bool.eq_iff_iff]
    simp; omega
theorem gt_most (x : Nat) : ltF 9218868437227405311 x = (decide (rg x = 9218868437227405312) && !sgn x) := by
  have h1 : nanB 9218868437227405311 = false := by decide +kernel
  have h2 : V 9218868437227405311 = (mgR 9218868437227405311 : Int) := by
    have a : sgn 9218868437227405311 = false := by decide +kernel
    have b : rg 9218868437227405311 = 9218868437227405311 := by decide +kernel
    unfold V; rw [a, b]; rfl
  unfold ltF
  rw [h1, h2]
  cases hn : nanB x
  · have h' : rg x ≤ 9218868437227405312 := by simpa [nanB] using hn
    have := @mgR_lt_iff 9218868437227405311 (rg x)
    rw [Bool.eq_iff_iff]
    unfold V sn
    cases sgn x <;> simp <;> omega
  · have : 9218868437227405312 < rg x := by simpa [nanB] using hn
    rw [Bool.eq_iff_iff]
    simp; omega
end Go.Proofs.Yteeiebopfjlffaa
