/- The sum of bytes as plain arithmetic: a bit, a byte, a text; the sum is linear. -/
import Derived.Test.YteeiebopfjlffaaRows
namespace Go.Proofs.Yteeiebopfjlffaa
set_option maxRecDepth 100000
set_option linter.unusedVariables false
set_option linter.unusedSimpArgs false

/-- A bit goes through. -/
def bitN (c d : Nat) : Nat := if c / 32768 = d then 2 * c % 65536 else (2 * c % 65536) ^^^ 4129
/-- The lowest k bits of b go through, the highest of them first. -/
def thruK : Nat → Nat → Nat → Nat
  | 0, c, _ => c
  | k + 1, c, b => thruK k (bitN c (b / 2 ^ k % 2)) b
def thru (c b : Nat) : Nat := thruK 8 c b
def moreN (c : Nat) (l : List UInt8) : Nat := l.foldl (fun c x => thru c x.toNat) c

theorem xor_u16 {a b : Nat} (ha : a < 65536) (hb : b < 65536) : a ^^^ b < 65536 := Nat.xor_lt_two_pow (n := 16) ha hb
theorem bit_lt (c d : Nat) : bitN c d < 65536 := by
  unfold bitN
  split
  · omega
  · exact xor_u16 (by omega) (by decide)
theorem thruK_lt (b : Nat) : ∀ (k c : Nat), c < 65536 → thruK k c b < 65536
  | 0, c, h => h
  | k + 1, c, h => thruK_lt b k _ (bit_lt _ _)
theorem thru_lt {c : Nat} (b : Nat) (h : c < 65536) : thru c b < 65536 := thruK_lt b 8 c h
theorem more_lt (l : List UInt8) : ∀ (c : Nat), c < 65536 → moreN c l < 65536 := by
  induction l with
  | nil => intro c h; exact h
  | cons x l ih => intro c h; exact ih _ (thru_lt _ h)
theorem more_nil (c : Nat) : moreN c [] = c := rfl
theorem more_cons (c : Nat) (x : UInt8) (l : List UInt8) : moreN c (x :: l) = moreN (thru c x.toNat) l := rfl
theorem more_append (c : Nat) (l m : List UInt8) : moreN c (l ++ m) = moreN (moreN c l) m := List.foldl_append ..
theorem more_step (c : Nat) (l : List UInt8) (k : Nat) (hk : k < l.length) : moreN c (l.take (k + 1)) = thru (moreN c (l.take k)) (l[k]).toNat := by
  rw [List.take_add_one, List.getElem?_eq_getElem hk, more_append]
  rfl

/-! Linear. -/
theorem bit_bv (c d : Nat) (hc : c < 65536) (hd : d < 2) : bitN c d = (BitVec.ofNat 16 c <<< 1 ^^^ (if (decide (32768 ≤ c)) = (decide (d = 1)) then 0#16 else 4129#16)).toNat := by
  unfold bitN
  have hs : (BitVec.ofNat 16 c <<< 1).toNat = 2 * c % 65536 := by
    rw [BitVec.toNat_shiftLeft, BitVec.toNat_ofNat, Nat.shiftLeft_eq]
    omega
  by_cases h : c / 32768 = d
  · rw [if_pos h, if_pos (by rw [decide_eq_decide]; omega), BitVec.xor_zero, hs]
  · rw [if_neg h, if_neg (by rw [decide_eq_decide]; omega), BitVec.toNat_xor, hs]
    rfl
theorem bit_lin (c c' d d' : Nat) (hc : c < 65536) (hc' : c' < 65536) (hd : d < 2) (hd' : d' < 2) : bitN (c ^^^ c') (d ^^^ d') = bitN c d ^^^ bitN c' d' := by
  have hx := xor_u16 hc hc'
  have hdx : d ^^^ d' < 2 := Nat.xor_lt_two_pow (n := 1) hd hd'
  have top : ∀ n : Nat, n < 65536 → decide (32768 ≤ n) = n.testBit 15 := fun n hn => by
    rw [Nat.testBit_eq_decide_div_mod_eq, decide_eq_decide]; omega
  have low : ∀ n : Nat, n < 2 → decide (n = 1) = n.testBit 0 := fun n hn => by
    rw [Nat.testBit_eq_decide_div_mod_eq, decide_eq_decide]; omega
  rw [bit_bv _ _ hx hdx, bit_bv _ _ hc hd, bit_bv _ _ hc' hd', ← BitVec.toNat_xor]
  refine congrArg BitVec.toNat ?_
  rw [top _ hx, top _ hc, top _ hc', low _ hdx, low _ hd, low _ hd', Nat.testBit_xor, Nat.testBit_xor, BitVec.ofNat_xor, BitVec.shiftLeft_xor_distrib]
  generalize c.testBit 15 = p
  generalize c'.testBit 15 = q
  generalize d.testBit 0 = r
  generalize d'.testBit 0 = s
  generalize BitVec.ofNat 16 c <<< 1 = x
  generalize BitVec.ofNat 16 c' <<< 1 = y
  have e : x ^^^ 4129#16 ^^^ (y ^^^ 4129#16) = x ^^^ y := by
    rw [show x ^^^ 4129#16 ^^^ (y ^^^ 4129#16) = x ^^^ y ^^^ (4129#16 ^^^ 4129#16) by ac_rfl, BitVec.xor_self, BitVec.xor_zero]
  cases p <;> cases q <;> cases r <;> cases s <;> simp [e] <;> ac_rfl
theorem place_lin (b b' k : Nat) : (b ^^^ b') / 2 ^ k % 2 = (b / 2 ^ k % 2) ^^^ (b' / 2 ^ k % 2) := by
  rw [← Nat.toNat_testBit, ← Nat.toNat_testBit, ← Nat.toNat_testBit, Nat.testBit_xor]
  cases b.testBit k <;> cases b'.testBit k <;> rfl
theorem thruK_lin (b b' : Nat) : ∀ (k c c' : Nat), c < 65536 → c' < 65536 → thruK k (c ^^^ c') (b ^^^ b') = thruK k c b ^^^ thruK k c' b'
  | 0, c, c', _, _ => rfl
  | k + 1, c, c', h, h' => by
    simp only [thruK]
    rw [place_lin, bit_lin c c' _ _ h h' (by omega) (by omega), thruK_lin b b' k _ _ (bit_lt _ _) (bit_lt _ _)]
theorem thru_lin (c c' b b' : Nat) (h : c < 65536) (h' : c' < 65536) : thru (c ^^^ c') (b ^^^ b') = thru c b ^^^ thru c' b' := thruK_lin b b' 8 c c' h h'
theorem more_lin : ∀ (l m : List UInt8) (c c' : Nat), l.length = m.length → c < 65536 → c' < 65536 → moreN (c ^^^ c') (List.zipWith (· ^^^ ·) l m) = moreN c l ^^^ moreN c' m
  | [], [], c, c', _, _, _ => rfl
  | x :: l, y :: m, c, c', e, h, h' => by
    rw [List.zipWith_cons_cons, more_cons, more_cons, more_cons, UInt8.toNat_xor, thru_lin c c' _ _ h h']
    exact more_lin l m _ _ (by simpa using e) (thru_lt _ h) (thru_lt _ h')

/-! What is found. -/
theorem bit_zero (c : Nat) (hc : c < 65536) (h : bitN c 0 = 0) : c = 0 := by
  unfold bitN at h
  split at h
  · omega
  · have e : 2 * c % 65536 = 4129 := by
      have := congrArg (· ^^^ 4129) h
      simpa [Nat.xor_assoc] using this
    omega
theorem thruK_zero : ∀ (k c : Nat), c < 65536 → thruK k c 0 = 0 → c = 0
  | 0, c, _, h => h
  | k + 1, c, hc, h => by
    simp only [thruK, Nat.zero_div, Nat.zero_mod] at h
    exact bit_zero c hc (thruK_zero k _ (bit_lt _ _) h)
theorem thru_zero (c : Nat) (hc : c < 65536) (h : thru c 0 = 0) : c = 0 := thruK_zero 8 c hc h
theorem more_zero : ∀ (n c : Nat), c < 65536 → moreN c (List.replicate n 0) = 0 → c = 0
  | 0, c, _, h => h
  | n + 1, c, hc, h => by
    rw [List.replicate_succ, more_cons] at h
    exact thru_zero c hc (more_zero n _ (thru_lt _ hc) h)
theorem nought_more : ∀ n : Nat, moreN 0 (List.replicate n 0) = 0
  | 0 => rfl
  | n + 1 => by
    rw [List.replicate_succ, more_cons, show thru 0 (0 : UInt8).toNat = 0 by decide]
    exact nought_more n
theorem high_byte : ∀ x : Fin 256, thru 0 x.val = thru (x.val * 256) 0 := by decide +kernel
theorem low_byte : ∀ x : Fin 256, thru x.val 0 = x.val * 256 := by decide +kernel
theorem left_low : ∀ x : Fin 256, x.val ≠ 0 → thru 0 x.val % 256 ≠ 0 := by decide +kernel
theorem thru_high (c x : Nat) (hc : c < 65536) (hx : x < 256) : thru c x = thru (c ^^^ (x * 256)) 0 := by
  have h := thru_lin c 0 0 x hc (by decide)
  have h2 := thru_lin c (x * 256) 0 0 hc (by omega)
  rw [Nat.xor_zero, Nat.zero_xor] at h
  rw [Nat.xor_zero] at h2
  rw [h, h2, high_byte ⟨x, hx⟩]
theorem split_xor (c : Nat) : c ^^^ (c / 256 * 256) = c % 256 := by
  apply Nat.eq_of_testBit_eq
  intro i
  rw [Nat.testBit_xor, show (256 : Nat) = 2 ^ 8 from rfl, Nat.testBit_mul_two_pow, Nat.testBit_mod_two_pow, Nat.testBit_div_two_pow]
  by_cases h : i < 8
  · simp [h, show ¬ 8 ≤ i by omega]
  · simp [h, show 8 ≤ i by omega]
theorem sealed_zero (c : Nat) (hc : c < 65536) : thru (thru c (c / 256)) (c % 256) = 0 := by
  rw [thru_high c _ hc (by omega), split_xor, low_byte ⟨c % 256, by omega⟩, thru_high _ _ (by simp; omega) (by omega), Nat.xor_self]
  decide
theorem one_found (x : Nat) (hx : x < 256) (h : x ≠ 0) : thru 0 x ≠ 0 := fun e => left_low ⟨x, hx⟩ h (by simp [e])
theorem two_found (x y : Nat) (hx : x < 256) (hy : y < 256) (h : x ≠ 0) : thru (thru 0 x) y ≠ 0 := by
  intro e
  have hl : thru 0 x < 65536 := thru_lt _ (by decide)
  rw [thru_high _ _ hl hy] at e
  have e2 := thru_zero _ (xor_u16 hl (by omega)) e
  have e3 : thru 0 x = y * 256 := by
    have := congrArg (· ^^^ (y * 256)) e2
    simpa [Nat.xor_assoc] using this
  exact left_low ⟨x, hx⟩ h (by simp only []; omega)
end Go.Proofs.Yteeiebopfjlffaa
