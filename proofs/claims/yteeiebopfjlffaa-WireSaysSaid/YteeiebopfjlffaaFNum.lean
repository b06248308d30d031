/- Float64 as mathematics: each finite word stands for a whole number of units of 2^-1074; comparing, rounding and making whole are arithmetic on these. -/
import Derived.WalkLawsBesides
namespace Go.Proofs.Yteeiebopfjlffaa
set_option maxRecDepth 100000
open Ieee
set_option linter.unusedVariables false
set_option linter.unusedSimpArgs false

/-! ### A word's sign and rung; what a rung counts. -/
def sgn (x : Nat) : Bool := x / 9223372036854775808 % 2 == 1
def rg (x : Nat) : Nat := x % 9223372036854775808
def nanB (x : Nat) : Bool := decide (9218868437227405312 < rg x)
def ex (r : Nat) : Nat := r / 4503599627370496 - 1
def sig (r : Nat) : Nat := if r < 4503599627370496 then r else 4503599627370496 + r % 4503599627370496
def mgR (r : Nat) : Nat := sig r * 2 ^ ex r
def sn (s : Bool) (m : Nat) : Int := if s then -(m : Int) else (m : Int)
def V (x : Nat) : Int := sn (sgn x) (mgR (rg x))

theorem d_sw : double.signWeight = 9223372036854775808 := by decide +kernel
theorem d_bin : double.binade = 4503599627370496 := by decide +kernel
theorem d_inf : double.infRung = 9218868437227405312 := by decide +kernel
theorem d_least : double.leastPlace = -1074 := by decide +kernel
theorem d_frac : double.fractionBits = 52 := rfl

theorem rg_lt (x : Nat) : rg x < 9223372036854775808 := Nat.mod_lt _ (by omega)

theorem read_eq (x : Nat) : double.read x = if rg x < 4503599627370496 then .number (sgn x) (rg x) (-1074) else if rg x < 9218868437227405312 then .number (sgn x) (4503599627370496 + rg x % 4503599627370496) (-1074 + (rg x / 4503599627370496 - 1 : Nat)) else if rg x = 9218868437227405312 then .infinity (sgn x) else .nan (sgn x) (rg x - 9218868437227405312) := by
  unfold Format.read
  simp only [d_sw, d_bin, d_inf, d_least]
  rfl
theorem read_fin {x : Nat} (h : rg x < 9218868437227405312) : double.read x = .number (sgn x) (sig (rg x)) (-1074 + (ex (rg x) : Nat)) := by
  rw [read_eq]
  by_cases c : rg x < 4503599627370496
  · rw [if_pos c]
    have : ex (rg x) = 0 := by unfold ex; omega
    rw [this, sig, if_pos c]
    rfl
  · rw [if_neg c, if_pos h, sig, if_neg c]
    rfl
theorem read_inf {x : Nat} (h : rg x = 9218868437227405312) : double.read x = .infinity (sgn x) := by
  rw [read_eq, if_neg (by omega), if_neg (by omega), if_pos h]
theorem read_nan {x : Nat} (h : 9218868437227405312 < rg x) : double.read x = .nan (sgn x) (rg x - 9218868437227405312) := by
  rw [read_eq, if_neg (by omega), if_neg (by omega), if_neg (by omega)]

theorem sgn_word (s : Bool) {r : Nat} (h : r < 9223372036854775808) : sgn (double.word s r) = s := by
  unfold Format.word sgn
  rw [d_sw]
  cases s
  · simp; omega
  · simp; omega
theorem rg_word (s : Bool) {r : Nat} (h : r < 9223372036854775808) : rg (double.word s r) = r := by
  unfold Format.word rg
  rw [d_sw]
  cases s
  · simp; omega
  · simp; omega
theorem word_of {x : Nat} (h : x < 18446744073709551616) : double.word (sgn x) (rg x) = x := by
  unfold Format.word rg sgn
  rw [d_sw]
  by_cases c : x / 9223372036854775808 % 2 = 1
  · simp [c]; omega
  · simp [c]; omega

/-! ### Rungs go upwards. -/
theorem mgR_succ (r : Nat) : mgR r < mgR (r + 1) := by
  unfold mgR
  by_cases a : r + 1 < 4503599627370496
  · have e1 : ex r = 0 := by unfold ex; omega
    have e2 : ex (r + 1) = 0 := by unfold ex; omega
    rw [e1, e2]
    unfold sig
    rw [if_pos (by omega), if_pos a]
    omega
  · by_cases b : r < 4503599627370496
    · have hr : r = 4503599627370495 := by omega
      subst hr
      decide +kernel
    · have hs : sig r = 4503599627370496 + r % 4503599627370496 := by unfold sig; rw [if_neg b]
      have hs' : sig (r + 1) = 4503599627370496 + (r + 1) % 4503599627370496 := by unfold sig; rw [if_neg a]
      by_cases c : r % 4503599627370496 + 1 < 4503599627370496
      · have e1 : ex (r + 1) = ex r := by unfold ex; omega
        rw [e1]
        refine Nat.mul_lt_mul_of_lt_of_le ?_ (Nat.le_refl _) (Nat.two_pow_pos _)
        rw [hs, hs']; omega
      · have e1 : ex (r + 1) = ex r + 1 := by unfold ex; omega
        rw [e1, hs, hs', Nat.pow_succ, Nat.mul_comm (2 ^ ex r) 2, ← Nat.mul_assoc]
        refine Nat.mul_lt_mul_of_lt_of_le ?_ (Nat.le_refl _) (Nat.two_pow_pos _)
        omega
theorem mgR_lt {r r' : Nat} (h : r < r') : mgR r < mgR r' := by
  induction r' with
  | zero => omega
  | succ n ih =>
    rcases Nat.lt_or_ge r n with c | c
    · exact Nat.lt_trans (ih c) (mgR_succ n)
    · have : r = n := by omega
      subst this
      exact mgR_succ r
theorem mgR_le {r r' : Nat} (h : r ≤ r') : mgR r ≤ mgR r' := by
  rcases Nat.lt_or_ge r r' with c | c
  · exact Nat.le_of_lt (mgR_lt c)
  · have : r = r' := by omega
    rw [this]; exact Nat.le_refl _
theorem mgR_lt_iff {r r' : Nat} : mgR r < mgR r' ↔ r < r' :=
  ⟨fun h => by rcases Nat.lt_or_ge r r' with c | c; exact c; exact absurd (mgR_le c) (by omega), mgR_lt⟩
theorem mgR_le_iff {r r' : Nat} : mgR r ≤ mgR r' ↔ r ≤ r' :=
  ⟨fun h => by rcases Nat.lt_or_ge r' r with c | c; exact absurd (mgR_lt c) (by omega); exact c, mgR_le⟩
theorem mgR_zero : mgR 0 = 0 := by decide +kernel
theorem mgR_pos {r : Nat} (h : 0 < r) : 0 < mgR r := by have := mgR_lt h; rw [mgR_zero] at this; exact this
/-- A binade's rungs, its end let in. -/
theorem mgR_at (t k : Nat) (h : k ≤ 9007199254740992) (hk : t = 0 ∨ 4503599627370496 ≤ k) : mgR (t * 4503599627370496 + k) = k * 2 ^ t := by
  by_cases e : k = 9007199254740992
  · subst e
    have h1 : ex (t * 4503599627370496 + 9007199254740992) = t + 1 := by unfold ex; omega
    have h2 : sig (t * 4503599627370496 + 9007199254740992) = 4503599627370496 := by unfold sig; rw [if_neg (by omega)]; omega
    unfold mgR
    rw [h1, h2, Nat.pow_succ]
    omega
  · by_cases c : k < 4503599627370496
    · have ht : t = 0 := by omega
      subst ht
      unfold mgR sig ex
      rw [if_pos (by omega)]
      have : (0 * 4503599627370496 + k) / 4503599627370496 - 1 = 0 := by omega
      rw [this]; omega
    · have h1 : ex (t * 4503599627370496 + k) = t := by unfold ex; omega
      have h2 : sig (t * 4503599627370496 + k) = k := by unfold sig; rw [if_neg (by omega)]; omega
      unfold mgR
      rw [h1, h2]

/-! ### Comparing. -/
theorem signed_eq (s : Bool) (m k : Nat) : signed s m k = sn s (m * 2 ^ k) := by
  unfold signed sn
  rw [Nat.shiftLeft_eq]
theorem sn_mul (s : Bool) (m c : Nat) : sn s (m * c) = sn s m * (c : Int) := by
  unfold sn; cases s <;> simp [Int.natCast_mul, Int.neg_mul]
theorem cmp_scale (a b : Int) {c : Int} (h : 0 < c) : compare (a * c) (b * c) = compare a b := by
  rcases Int.lt_trichotomy a b with k | k | k
  · rw [Int.compare_eq_lt.2 k, Int.compare_eq_lt.2 (Int.mul_lt_mul_of_pos_right k h)]
  · subst k; rw [Int.compare_eq_eq.2 rfl, Int.compare_eq_eq.2 rfl]
  · rw [Int.compare_eq_gt.2 k, Int.compare_eq_gt.2 (Int.mul_lt_mul_of_pos_right k h)]

theorem cmp_lt {a b : Int} (h : a < b) : compare a b = .lt := Int.compare_eq_lt.2 h
theorem cmp_gt {a b : Int} (h : b < a) : compare a b = .gt := Int.compare_eq_gt.2 h
theorem V_fin_lt {x : Nat} (h : rg x < 9218868437227405312) : mgR (rg x) < mgR 9218868437227405312 := mgR_lt h

theorem order_fin {x y : Nat} (cx : rg x < 9218868437227405312) (cy : rg y < 9218868437227405312) : double.order x y = some (compare (V x) (V y)) := by
  unfold Format.order V
  rw [read_fin cx, read_fin cy]
  simp only [Datum.order]
  congr 1
  unfold mgR
  generalize ex (rg x) = a, ex (rg y) = b, sig (rg x) = m, sig (rg y) = n
  have e1 : (((-1074 : Int) + (a : Int)) - min ((-1074 : Int) + (a : Int)) (-1074 + (b : Int))).toNat = a - min a b := by omega
  have e2 : (((-1074 : Int) + (b : Int)) - min ((-1074 : Int) + (a : Int)) (-1074 + (b : Int))).toNat = b - min a b := by omega
  rw [e1, e2, signed_eq, signed_eq]
  have p1 : m * 2 ^ a = m * 2 ^ (a - min a b) * 2 ^ (min a b) := by rw [Nat.mul_assoc, ← Nat.pow_add]; congr 2; omega
  have p2 : n * 2 ^ b = n * 2 ^ (b - min a b) * 2 ^ (min a b) := by rw [Nat.mul_assoc, ← Nat.pow_add]; congr 2; omega
  rw [p1, p2, sn_mul _ (m * 2 ^ (a - min a b)), sn_mul _ (n * 2 ^ (b - min a b)), cmp_scale]
  exact_mod_cast Nat.two_pow_pos _

theorem order_V {x y : Nat} (hx : nanB x = false) (hy : nanB y = false) : double.order x y = some (compare (V x) (V y)) := by
  have hx' : rg x ≤ 9218868437227405312 := by simpa [nanB] using hx
  have hy' : rg y ≤ 9218868437227405312 := by simpa [nanB] using hy
  rcases Nat.lt_or_ge (rg x) 9218868437227405312 with cx | cx
  · rcases Nat.lt_or_ge (rg y) 9218868437227405312 with cy | cy
    · exact order_fin cx cy
    · have ey : rg y = 9218868437227405312 := by omega
      have := V_fin_lt cx
      unfold Format.order V
      rw [read_fin cx, read_inf ey, ey]
      simp only [Datum.order]
      cases sgn y
      · simp only [sn, Bool.false_eq_true, if_false]
        rw [cmp_lt]
        cases sgn x <;> simp <;> omega
      · simp only [sn, if_true]
        rw [cmp_gt]
        cases sgn x <;> simp <;> omega
  · have ex' : rg x = 9218868437227405312 := by omega
    rcases Nat.lt_or_ge (rg y) 9218868437227405312 with cy | cy
    · have := V_fin_lt cy
      unfold Format.order V
      rw [read_fin cy, read_inf ex', ex']
      simp only [Datum.order]
      cases sgn x
      · simp only [sn, Bool.false_eq_true, if_false]
        rw [cmp_gt]
        cases sgn y <;> simp <;> omega
      · simp only [sn, if_true]
        rw [cmp_lt]
        cases sgn y <;> simp <;> omega
    · have ey : rg y = 9218868437227405312 := by omega
      have : 0 < mgR 9218868437227405312 := mgR_pos (by omega)
      unfold Format.order V
      rw [read_inf ey, read_inf ex', ex', ey]
      simp only [Datum.order]
      cases sgn x <;> cases sgn y <;> simp only [sn, if_true, Bool.false_eq_true, if_false, Option.some.injEq]
      · rw [Int.compare_eq_eq.2 rfl]; rfl
      · rw [cmp_gt (by omega)]; rfl
      · rw [cmp_lt (by omega)]; rfl
      · rw [Int.compare_eq_eq.2 rfl]; rfl
theorem order_nan_left {x : Nat} (y : Nat) (h : nanB x = true) : double.order x y = none := by
  have h' : 9218868437227405312 < rg x := by simpa [nanB] using h
  unfold Format.order
  rw [read_nan h']
  rfl
theorem order_nan_right (x : Nat) {y : Nat} (h : nanB y = true) : double.order x y = none := by
  have h' : 9218868437227405312 < rg y := by simpa [nanB] using h
  unfold Format.order
  rw [read_nan h']
  cases double.read x <;> rfl

/-- The language's '<' and '==' on words. -/
def ltF (a b : Nat) : Bool := !nanB a && !nanB b && decide (V a < V b)
def eqF (a b : Nat) : Bool := !nanB a && !nanB b && decide (V a = V b)
theorem o_lt (a b : Nat) : (double.order a b == some .lt) = ltF a b := by
  unfold ltF
  cases ha : nanB a
  · cases hb : nanB b
    · rw [order_V ha hb]
      rcases Int.lt_trichotomy (V a) (V b) with k | k | k
      · simp [cmp_lt k, k]
      · simp [k]
      · rw [cmp_gt k]; simp; omega
    · rw [order_nan_right a hb]; simp
  · rw [order_nan_left b ha]; simp
theorem o_gt (a b : Nat) : (double.order a b == some .gt) = ltF b a := by
  unfold ltF
  cases ha : nanB a
  · cases hb : nanB b
    · rw [order_V ha hb]
      rcases Int.lt_trichotomy (V a) (V b) with k | k | k
      · rw [cmp_lt k]; simp; omega
      · simp [k]
      · rw [cmp_gt k]; simp [k]
    · rw [order_nan_right a hb]; simp
  · rw [order_nan_left b ha]; simp
theorem o_eq (a b : Nat) : (double.order a b == some .eq) = eqF a b := by
  unfold eqF
  cases ha : nanB a
  · cases hb : nanB b
    · rw [order_V ha hb]
      rcases Int.lt_trichotomy (V a) (V b) with k | k | k
      · rw [cmp_lt k]; simp; omega
      · simp [k]
      · rw [cmp_gt k]; simp; omega
    · rw [order_nan_right a hb]; simp
  · rw [order_nan_left b ha]; simp


/-! ### Rounding. -/
/-- 'n / g', made whole. -/
def cutT (way : Toward) (neg : Bool) (n g : Nat) : Nat :=
  n / g + (match way with
    | .even => decide (g < 2 * (n % g)) || (g == 2 * (n % g) && n / g % 2 == 1)
    | .down => neg && n % g != 0
    | .up => !neg && n % g != 0
    | .zero => false).toNat

theorem cutT_scale (way : Toward) (neg : Bool) (n g : Nat) {c : Nat} (hc : 0 < c) : cutT way neg (n * c) (g * c) = cutT way neg n g := by
  have h1 : n * c / (g * c) = n / g := Nat.mul_div_mul_right _ _ hc
  have h2 : n * c % (g * c) = n % g * c := Nat.mul_mod_mul_right _ _ _
  unfold cutT
  rw [h1, h2]
  have h3 : (n % g * c != 0) = (n % g != 0) := by
    rw [Bool.eq_iff_iff]
    simp only [bne_iff_ne, ne_eq, Nat.mul_eq_zero]
    omega
  have h4 : decide (g * c < 2 * (n % g * c)) = decide (g < 2 * (n % g)) := by
    rw [← Nat.mul_assoc, decide_eq_decide]
    exact ⟨fun h => Nat.lt_of_mul_lt_mul_right h, fun h => Nat.mul_lt_mul_of_pos_right h hc⟩
  have h5 : (g * c == 2 * (n % g * c)) = (g == 2 * (n % g)) := by
    rw [← Nat.mul_assoc, Bool.eq_iff_iff]
    simp only [beq_iff_eq]
    exact ⟨fun h => Nat.eq_of_mul_eq_mul_right hc h, fun h => congrArg (· * c) h⟩
  cases way <;> simp only [h3, h4, h5]

theorem cut_eq (way : Toward) (neg : Bool) (n drop : Nat) : way.cut neg n drop = cutT way neg n (2 ^ drop) := by
  have key : way.cut neg n drop = cutT way neg n (1 <<< min drop (n.log2 + 2)) := by
    unfold Toward.cut cutT; cases way <;> rfl
  rw [key, Nat.one_shiftLeft]
  rcases Nat.le_total drop (n.log2 + 2) with c | c
  · rw [Nat.min_eq_left c]
  · rw [Nat.min_eq_right c]
    have h1 : n < 2 ^ (n.log2 + 1) := Nat.lt_log2_self
    have h2 : 2 ^ (n.log2 + 2) = 2 * 2 ^ (n.log2 + 1) := by rw [Nat.pow_succ, Nat.mul_comm]
    have h3 : 2 ^ (n.log2 + 2) ≤ 2 ^ drop := Nat.pow_le_pow_right (by omega) c
    generalize 2 ^ (n.log2 + 2) = g at *
    generalize 2 ^ drop = g' at *
    unfold cutT
    rw [Nat.div_eq_of_lt (show n < g by omega), Nat.div_eq_of_lt (show n < g' by omega), Nat.mod_eq_of_lt (show n < g by omega), Nat.mod_eq_of_lt (show n < g' by omega)]
    have q1 : decide (g < 2 * n) = false := decide_eq_false (by omega)
    have q2 : decide (g' < 2 * n) = false := decide_eq_false (by omega)
    have q3 : (g == 2 * n) = false := beq_eq_false_iff_ne.2 (by omega)
    have q4 : (g' == 2 * n) = false := beq_eq_false_iff_ne.2 (by omega)
    cases way <;> simp only [q1, q2, q3, q4, Bool.false_or, Bool.false_and]

/-- The rung that a count of units is rounded to. -/
def rung (M : Nat) : Nat :=
  if M = 0 then 0 else min ((M.log2 - 52) * 4503599627370496 + cutT .even false M (2 ^ (M.log2 - 52))) 9218868437227405312

theorem log2_shift {m : Nat} (h : m ≠ 0) (p : Nat) : (m * 2 ^ p).log2 = m.log2 + p := by
  have h1 := Nat.log2_self_le h
  have h2 : m < 2 ^ (m.log2 + 1) := Nat.lt_log2_self
  have hp : 0 < 2 ^ p := Nat.two_pow_pos p
  rw [Nat.log2_eq_iff (by have := Nat.mul_pos (Nat.pos_of_ne_zero h) hp; omega), Nat.pow_add, show m.log2 + p + 1 = m.log2 + 1 + p by omega, Nat.pow_add]
  exact ⟨Nat.mul_le_mul_right _ h1, Nat.mul_lt_mul_of_pos_right h2 hp⟩

theorem cutT_even (s t : Bool) (n g : Nat) : cutT .even s n g = cutT .even t n g := rfl

/-- A shifted cut, as one of the scaled number. -/
theorem cut_shift (way : Toward) (s : Bool) (m i j : Nat) (hij : i = 0 ∨ j = 0) (k : Nat) (hk : j ≤ k) :
    way.cut s (m <<< i) j = cutT way s (m * 2 ^ (i + (k - j))) (2 ^ k) := by
  rw [cut_eq, Nat.shiftLeft_eq, ← cutT_scale way s (m * 2 ^ i) (2 ^ j) (c := 2 ^ (k - j)) (Nat.two_pow_pos _), Nat.mul_assoc, ← Nat.pow_add, ← Nat.pow_add]
  congr 2
  omega

theorem nearest_eq (s : Bool) (m p : Nat) : double.nearest s m (-1074 + (p : Int)) = double.word s (rung (m * 2 ^ p)) := by
  unfold Format.nearest rung
  by_cases h : m = 0
  · subst h; simp
  · have h0 : m * 2 ^ p ≠ 0 := by have := Nat.mul_pos (Nat.pos_of_ne_zero h) (Nat.two_pow_pos p); omega
    rw [if_neg h, if_neg h0, log2_shift h]
    simp only [d_least, d_frac, d_bin, d_inf]
    have e1 : (max ((-1074 : Int) + (p : Int) + (m.log2 : Int) - ((52 : Nat) : Int)) (-1074)) = -1074 + ((m.log2 + p - 52 : Nat) : Int) := by omega
    rw [e1]
    have e2 : ((-1074 : Int) + ((m.log2 + p - 52 : Nat) : Int) - -1074).toNat = m.log2 + p - 52 := by omega
    have e3 : ((-1074 : Int) + (p : Int) - (-1074 + ((m.log2 + p - 52 : Nat) : Int))).toNat = p - (m.log2 + p - 52) := by omega
    have e4 : ((-1074 : Int) + ((m.log2 + p - 52 : Nat) : Int) - (-1074 + (p : Int))).toNat = (m.log2 + p - 52) - p := by omega
    rw [e2, e3, e4]
    generalize m.log2 + p - 52 = t
    rw [cut_shift .even s m (p - t) (t - p) (by omega) t (by omega)]
    have e5 : p - t + (t - (t - p)) = p := by omega
    rw [e5, cutT_even s false]

theorem rung_facts {M : Nat} (h : M ≠ 0) : ∃ r0, mgR r0 ≤ M ∧ M < mgR (r0 + 1) ∧ (rung M = min r0 9218868437227405312 ∨ (mgR r0 < M ∧ rung M = min (r0 + 1) 9218868437227405312)) := by
  have h1 := Nat.log2_self_le h
  have h2 : M < 2 ^ (M.log2 + 1) := Nat.lt_log2_self
  unfold rung
  rw [if_neg h]
  have hq1 : M / 2 ^ (M.log2 - 52) < 9007199254740992 := by
    rw [Nat.div_lt_iff_lt_mul (Nat.two_pow_pos _)]
    refine Nat.lt_of_lt_of_le h2 ?_
    show 2 ^ (M.log2 + 1) ≤ 2 ^ 53 * 2 ^ (M.log2 - 52)
    rw [← Nat.pow_add]
    exact Nat.pow_le_pow_right (by omega) (by omega)
  have hq2 : M.log2 - 52 = 0 ∨ 4503599627370496 ≤ M / 2 ^ (M.log2 - 52) := by
    rcases Nat.le_total M.log2 52 with c | c
    · left; omega
    · right
      rw [Nat.le_div_iff_mul_le (Nat.two_pow_pos _)]
      show 2 ^ 52 * 2 ^ (M.log2 - 52) ≤ M
      rw [← Nat.pow_add, show 52 + (M.log2 - 52) = M.log2 by omega]
      exact h1
  generalize M.log2 - 52 = t at *
  have hd := Nat.div_add_mod M (2 ^ t)
  have hm := Nat.mod_lt M (Nat.two_pow_pos t)
  have g1 := mgR_at t (M / 2 ^ t) (by omega) hq2
  have g2 := mgR_at t (M / 2 ^ t + 1) (by omega) (by omega)
  refine ⟨t * 4503599627370496 + M / 2 ^ t, ?_, ?_, ?_⟩
  · rw [g1, Nat.mul_comm]; omega
  · rw [Nat.add_assoc, g2, Nat.add_mul, Nat.mul_comm]; omega
  · rw [g1]
    unfold cutT
    generalize hb : (decide (2 ^ t < 2 * (M % 2 ^ t)) || (2 ^ t == 2 * (M % 2 ^ t) && M / 2 ^ t % 2 == 1)) = b
    cases b
    · left; simp
    · right
      refine ⟨?_, by simp [Nat.add_assoc]⟩
      have : 0 < M % 2 ^ t := by
        simp at hb
        have := Nat.two_pow_pos t
        omega
      rw [Nat.mul_comm]; omega

theorem rung_inf (M : Nat) : rung M ≤ 9218868437227405312 := by
  unfold rung
  split <;> omega
theorem rung_lt63 (M : Nat) : rung M < 9223372036854775808 := by have := rung_inf M; omega
theorem rung_le {M r : Nat} (h : M ≤ mgR r) : rung M ≤ r := by
  by_cases h0 : M = 0
  · subst h0; simp [rung]
  · obtain ⟨r0, a, b, c | ⟨c, d⟩⟩ := rung_facts h0
    · have : r0 ≤ r := mgR_le_iff.1 (Nat.le_trans a h)
      omega
    · have : r0 < r := mgR_lt_iff.1 (Nat.lt_of_lt_of_le c h)
      omega
theorem le_rung {M r : Nat} (hr : r ≤ 9218868437227405312) (h : mgR r ≤ M) : r ≤ rung M := by
  by_cases h0 : M = 0
  · subst h0
    have : r ≤ 0 := mgR_le_iff.1 (by rw [mgR_zero]; exact h)
    omega
  · obtain ⟨r0, a, b, c | ⟨c, d⟩⟩ := rung_facts h0
    · have : r < r0 + 1 := mgR_lt_iff.1 (Nat.lt_of_le_of_lt h b)
      omega
    · have : r < r0 + 1 := mgR_lt_iff.1 (Nat.lt_of_le_of_lt h b)
      omega
theorem rung_exact {r : Nat} (hr : r ≤ 9218868437227405312) : rung (mgR r) = r :=
  Nat.le_antisymm (rung_le (Nat.le_refl _)) (le_rung hr (Nat.le_refl _))

/-! ### Whole numbers: n has n * S units. -/
theorem has_K : ∃ k : Nat, k = 1073 := ⟨1073, rfl⟩
noncomputable def K : Nat := Classical.choose has_K
theorem K_eq : K = 1073 := Classical.choose_spec has_K
noncomputable def HALF : Nat := 2 ^ K
noncomputable def S : Nat := 2 ^ (K + 1)
theorem S_two : 2 ^ (K + 1) = S := rfl
theorem HALF_pos : 0 < HALF := Nat.two_pow_pos _
theorem S_pos : 0 < S := Nat.two_pow_pos _
theorem S_half : S = 2 * HALF := by unfold S HALF; rw [Nat.pow_succ]; exact Nat.mul_comm _ _

theorem whole_rung {c : Nat} (h : c ≤ 9007199254740992) : ∃ r, r < 9218868437227405312 ∧ mgR r = c * S := by
  by_cases c0 : c = 0
  · subst c0; exact ⟨0, by omega, by rw [mgR_zero, Nat.zero_mul]⟩
  · by_cases c1 : c = 9007199254740992
    · subst c1
      refine ⟨(K + 2) * 4503599627370496 + 4503599627370496, by rw [K_eq]; omega, ?_⟩
      rw [mgR_at (K + 2) 4503599627370496 (by omega) (by omega), show K + 2 = K + 1 + 1 from rfl, Nat.pow_succ 2 (K + 1), S_two]
      omega
    · have h1 := Nat.log2_self_le c0
      have h2 : c < 2 ^ (c.log2 + 1) := Nat.lt_log2_self
      have h3 : c.log2 < 53 := (Nat.log2_lt c0).2 (by omega)
      have h4 : 2 ^ c.log2 * 2 ^ (52 - c.log2) ≤ c * 2 ^ (52 - c.log2) := Nat.mul_le_mul_right _ h1
      have h5 : c * 2 ^ (52 - c.log2) < 2 ^ (c.log2 + 1) * 2 ^ (52 - c.log2) := Nat.mul_lt_mul_of_pos_right h2 (Nat.two_pow_pos _)
      rw [← Nat.pow_add, show c.log2 + (52 - c.log2) = 52 by omega] at h4
      rw [← Nat.pow_add, show c.log2 + 1 + (52 - c.log2) = 53 by omega] at h5
      have h6 := mgR_at (1022 + c.log2) (c * 2 ^ (52 - c.log2)) (by omega) (by omega)
      refine ⟨_, ?_, h6.trans ?_⟩
      · omega
      · rw [Nat.mul_assoc, ← Nat.pow_add]
        rw [← S_two]
        congr 2
        rw [K_eq]
        omega

/-- A word's count of units, its sign aside. -/
def mg (x : Nat) : Nat := mgR (rg x)
theorem V_mg (x : Nat) : V x = sn (sgn x) (mg x) := rfl
def finB (x : Nat) : Bool := decide (rg x < 9218868437227405312)

/-- What 'float64(n)' stands for. -/
theorem ofInt_V {n : Int} (h1 : -9007199254740992 ≤ n) (h2 : n ≤ 9007199254740992) :
    V (floatOfInt .f64 n) = n * S ∧ finB (floatOfInt .f64 n) = true ∧ nanB (floatOfInt .f64 n) = false := by
  obtain ⟨r, hr, hm⟩ := whole_rung (c := n.natAbs) (by omega)
  have e : floatOfInt .f64 n = double.word (decide (n < 0)) r := by
    show double.nearest (decide (n < 0)) n.natAbs 0 = _
    have := nearest_eq (decide (n < 0)) n.natAbs (K + 1)
    rw [show ((-1074 : Int) + ((K + 1 : Nat) : Int)) = 0 by rw [K_eq]; omega] at this
    rw [this, S_two, ← hm, rung_exact (by omega)]
  have hs := sgn_word (decide (n < 0)) (r := r) (by omega)
  have hg := rg_word (decide (n < 0)) (r := r) (by omega)
  rw [e]
  refine ⟨?_, by unfold finB; rw [hg]; simpa using hr, by unfold nanB; rw [hg]; simp; omega⟩
  unfold V
  rw [hs, hg, hm]
  unfold sn
  by_cases c : n < 0
  · simp only [c, decide_true, if_true]
    rw [Int.natCast_mul, ← Int.neg_mul]
    congr 1; omega
  · simp only [c, decide_false, Bool.false_eq_true, if_false]
    rw [Int.natCast_mul]
    congr 1; omega

/-! ### Made whole. -/
noncomputable def wholeN (way : Toward) (x : Nat) : Nat := cutT way (sgn x) (mg x) S
theorem cut_read (way : Toward) (s : Bool) (r : Nat) :
    way.cut s (sig r <<< ((-1074 : Int) + (ex r : Nat)).toNat) (-((-1074 : Int) + (ex r : Nat))).toNat = cutT way s (mgR r) S := by
  rw [cut_shift way s (sig r) _ _ (by omega) (K + 1) (by rw [K_eq]; omega), S_two]
  unfold mgR
  congr 3
  rw [K_eq]
  omega
theorem integral_fin (way : Toward) {x : Nat} (h : rg x < 9218868437227405312) : (double.read x).integral way = .number (sgn x) (wholeN way x) 0 := by
  rw [read_fin h]
  show Datum.number _ (way.cut _ _ _) _ = _
  rw [cut_read]
  rfl

/-- 'int(x)'. -/
theorem toInt_fin {x : Nat} (h : rg x < 9218868437227405312) : (double.read x).toInt .zero = some (sn (sgn x) (mg x / S)) := by
  unfold Datum.toInt
  rw [integral_fin .zero h]
  show some (signed _ _ 0) = _
  rw [signed_eq]
  simp [wholeN, cutT]

theorem toInt_val {x : Nat} (h : finB x = true) (h1 : mg x ≤ 9007199254740992 * S) : floatToIntVal .f64 x .i64 = some (sn (sgn x) (mg x / S)) := by
  have hb : mg x / S ≤ 9007199254740992 := Nat.div_le_of_le_mul (by rw [Nat.mul_comm]; exact h1)
  unfold floatToIntVal
  show (match (double.read x).toInt .zero with | some n => _ | none => none) = _
  rw [toInt_fin (by simpa [finB] using h)]
  have hm : IntKind.i64.min = -9223372036854775808 := by decide +kernel
  have hM : IntKind.i64.max = 9223372036854775807 := by decide +kernel
  simp only [hm, hM]
  generalize mg x / S = q at *
  rw [if_pos]
  unfold sn
  split <;> omega

/-- What floor, ceil, trunc and round hand on, of numbers of 53 bits. -/
theorem whole_word (way : Toward) {x : Nat} (h : finB x = true) (hb : wholeN way x ≤ 9007199254740992) :
    ∃ y, double.write ((double.read x).integral way) = y ∧ finB y = true ∧ sgn y = sgn x ∧ mg y = wholeN way x * S := by
  obtain ⟨r, hr, hm⟩ := whole_rung hb
  refine ⟨_, rfl, ?_⟩
  rw [integral_fin way (by simpa [finB] using h)]
  have e : double.write (.number (sgn x) (wholeN way x) 0) = double.word (sgn x) r := by
    show double.nearest _ _ _ = _
    have := nearest_eq (sgn x) (wholeN way x) (K + 1)
    rw [show ((-1074 : Int) + ((K + 1 : Nat) : Int)) = 0 by rw [K_eq]; omega] at this
    rw [this, S_two, ← hm, rung_exact (by omega)]
  rw [e]
  unfold finB mg
  rw [rg_word _ (by omega), sgn_word _ (by omega)]
  exact ⟨by simpa using hr, rfl, hm⟩
end Go.Proofs.Yteeiebopfjlffaa
