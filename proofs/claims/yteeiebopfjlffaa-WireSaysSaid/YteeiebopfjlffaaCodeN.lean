/- Numbers as bytes of a fixed width, the highest one first; rows of them: plain mathematics, nothing of the program. -/
import Derived.WalkKit
import Derived.Test.YteeiebopfjlffaaRows
namespace Go.Proofs.Yteeiebopfjlffaa
set_option maxRecDepth 100000
set_option linter.unusedVariables false
set_option linter.unusedSimpArgs false

def dig (N W k : Nat) : UInt8 := UInt8.ofNat (N / 256 ^ (W - 1 - k))
def numL (N W : Nat) : List UInt8 := (List.range W).map (dig N W)
theorem numL_len (N W : Nat) : (numL N W).length = W := by simp [numL]
theorem numL_get (N W k : Nat) (h : k < (numL N W).length) : (numL N W)[k] = dig N W k := by simp [numL]
theorem numL_succ (N W : Nat) : numL N (W + 1) = numL (N / 256) W ++ [UInt8.ofNat N] := by
  unfold numL
  rw [List.range_succ, List.map_append]
  congr 1
  · apply List.map_congr_left
    intro k hk
    have hk : k < W := by simpa using hk
    unfold dig
    rw [show W + 1 - 1 - k = (W - 1 - k) + 1 by omega, Nat.pow_succ, Nat.mul_comm, ← Nat.div_div_eq_div_mul]
  · simp [dig]

def valL (l : List UInt8) : Nat := l.foldl (fun n b => n * 256 + b.toNat) 0
theorem val_snoc (l : List UInt8) (b : UInt8) : valL (l ++ [b]) = valL l * 256 + b.toNat := by simp [valL]
theorem val_from (l : List UInt8) : ∀ a, l.foldl (fun n b => n * 256 + b.toNat) a = a * 256 ^ l.length + valL l := by
  induction l with
  | nil => intro a; simp [valL]
  | cons b l ih =>
    intro a
    have e : valL (b :: l) = b.toNat * 256 ^ l.length + valL l := by
      unfold valL; rw [List.foldl_cons, ih]; simp [valL]
    rw [List.foldl_cons, ih, e, List.length_cons, Nat.pow_succ, Nat.add_mul, Nat.mul_assoc, Nat.mul_comm 256, Nat.add_assoc]
theorem val_cons (b : UInt8) (l : List UInt8) : valL (b :: l) = b.toNat * 256 ^ l.length + valL l := by
  have := val_from l b.toNat
  unfold valL at *; rw [List.foldl_cons]; simpa using this
theorem val_lt (l : List UInt8) : valL l < 256 ^ l.length := by
  induction l with
  | nil => simp [valL]
  | cons b l ih =>
    rw [val_cons, List.length_cons, Nat.pow_succ]
    have hb := UInt8.toNat_lt b
    have : b.toNat * 256 ^ l.length ≤ 255 * 256 ^ l.length := Nat.mul_le_mul_right _ (by omega)
    omega
theorem val_num : ∀ (W N : Nat), N < 256 ^ W → valL (numL N W) = N
  | 0, N, h => by simp at h; subst h; rfl
  | W + 1, N, h => by
    rw [numL_succ, val_snoc, val_num W (N / 256) (by rw [Nat.pow_succ] at h; omega), UInt8.toNat_ofNat']
    omega
theorem num_val : ∀ (n : Nat) (l : List UInt8), l.length = n → numL (valL l) n = l
  | 0, l, h => by rw [List.eq_nil_of_length_eq_zero h]; rfl
  | n + 1, l, h => by
    have hne : l ≠ [] := by rintro rfl; simp at h
    have e := List.dropLast_concat_getLast hne
    obtain ⟨m, b, rfl⟩ : ∃ m b, l = m ++ [b] := ⟨_, _, e.symm⟩
    have hb := UInt8.toNat_lt b
    rw [numL_succ, val_snoc, show (valL m * 256 + b.toNat) / 256 = valL m by omega, num_val n m (by simpa using h)]
    congr 2
    apply UInt8.toNat_inj.1
    rw [UInt8.toNat_ofNat']; omega
theorem val_take_snoc (l : List UInt8) (a k : Nat) (h : a + k < l.length) : valL ((l.drop a).take (k + 1)) = valL ((l.drop a).take k) * 256 + l[a + k].toNat := by
  have : (l.drop a).take (k + 1) = (l.drop a).take k ++ [l[a + k]] := by
    rw [List.take_succ_eq_append_getElem (by simp; omega)]
    simp
  rw [this, val_snoc]
theorem val_take_lt (l : List UInt8) (a k : Nat) : valL ((l.drop a).take k) < 256 ^ k := by
  refine Nat.lt_of_lt_of_le (val_lt _) (Nat.pow_le_pow_right (by omega) (List.length_take_le _ _))

/-! ### Which numbers can be told, and how. -/
def widB (w : Int) : Bool := decide (1 ≤ w ∧ w ≤ 7)
def numB (n w : Int) : Bool := decide (1 ≤ w ∧ w ≤ 7 ∧ 0 ≤ n ∧ n < ((256 ^ w.toNat : Nat) : Int))
def numS (n w : Int) : ByteArray := if numB n w = true then ⟨(numL n.toNat w.toNat).toArray⟩ else ⟨#[]⟩
theorem numS_size (n w : Int) : (numS n w).size = if numB n w = true then w.toNat else 0 := by
  unfold numS
  split
  · simp [ByteArray.size, numL_len]
  · rfl
def takB (n : Nat) (a w : Int) : Bool := decide (1 ≤ w ∧ w ≤ 7 ∧ 0 ≤ a ∧ a ≤ (n : Int) - w)
def takV (l : List UInt8) (a w : Int) : Int := if takB l.length a w = true then ((valL ((l.drop a.toNat).take w.toNat) : Nat) : Int) else 0

/-- A row of numbers, told; none, if one can't be. -/
def pk : List Int → List Int → Option (List UInt8)
  | x :: xs, w :: ws => if numB x w = true then (pk xs ws).map (numL x.toNat w.toNat ++ ·) else none
  | _, _ => some []
def pkO (xs ws : List Int) : Option (List UInt8) := if xs.length = ws.length ∧ ws.length ≤ 64 then pk xs ws else none
def pkB (xs ws : List Int) : Bool := (pkO xs ws).isSome
def pkS (xs ws : List Int) : ByteArray := ⟨((pkO xs ws).getD []).toArray⟩
/-- What a text tells from a on; none, if it is no row of such widths. -/
def up (l : List UInt8) : Nat → List Int → Option (List Int)
  | a, [] => if a = l.length then some [] else none
  | a, w :: ws => if takB l.length a w = true then (up l (a + w.toNat) ws).map (takV l a w :: ·) else none
def upO (l : List UInt8) (ws : List Int) : Option (List Int) := if ws.length ≤ 64 then up l 0 ws else none
def upB (l : List UInt8) (ws : List Int) : Bool := (upO l ws).isSome
def upV (l : List UInt8) (ws : List Int) : List Int := (upO l ws).getD []

theorem take_mid (pre m r : List UInt8) : ((pre ++ (m ++ r)).drop pre.length).take m.length = m := by simp
theorem up_pk : ∀ (xs ws : List Int) (pre l : List UInt8), xs.length = ws.length → pk xs ws = some l → up (pre ++ l) pre.length ws = some xs
  | [], [], pre, l, _, h => by simp [pk] at h; subst h; simp [up]
  | x :: xs, w :: ws, pre, l, hl, h => by
    simp only [pk] at h
    split at h
    next hb =>
      obtain ⟨r, hr, rfl⟩ := Option.map_eq_some_iff.1 h
      have hb' := hb
      simp only [numB, decide_eq_true_eq] at hb'
      obtain ⟨w1, w7, x0, x1⟩ := hb'
      obtain ⟨W, rfl⟩ := Int.eq_ofNat_of_zero_le (show 0 ≤ w by omega)
      obtain ⟨N, rfl⟩ := Int.eq_ofNat_of_zero_le x0
      simp only [Int.toNat_natCast] at *
      have hN : N < 256 ^ W := by omega
      have hlen := numL_len N W
      have ht : takB (pre ++ (numL N W ++ r)).length (pre.length : Nat) (W : Int) = true := by
        simp only [takB, List.length_append, hlen, decide_eq_true_eq]; omega
      have hv : takV (pre ++ (numL N W ++ r)) (pre.length : Nat) (W : Int) = (N : Int) := by
        unfold takV
        rw [ht, if_pos rfl]
        simp only [Int.toNat_natCast]
        have := take_mid pre (numL N W) r
        rw [hlen] at this
        rw [this, val_num W N hN]
      have ih := up_pk xs ws (pre ++ numL N W) r (by simpa using hl) hr
      rw [List.length_append, hlen, List.append_assoc] at ih
      simp only [up]
      rw [ht, if_pos rfl, hv]
      simp only [Int.toNat_natCast]
      rw [ih]
      rfl
    next => cases h
  | [], _ :: _, _, _, hl, _ => by simp at hl
  | _ :: _, [], _, _, hl, _ => by simp at hl
theorem pk_up : ∀ (ws : List Int) (l : List UInt8) (a : Nat) (ys : List Int), a ≤ l.length → up l a ws = some ys → ys.length = ws.length ∧ pk ys ws = some (l.drop a)
  | [], l, a, ys, ha, h => by
    simp only [up] at h
    split at h
    next e => simp at h; subst h; subst e; simp [pk]
    next => cases h
  | w :: ws, l, a, ys, ha, h => by
    simp only [up] at h
    split at h
    next hb =>
      obtain ⟨zs, hz, rfl⟩ := Option.map_eq_some_iff.1 h
      have hb' := hb
      simp only [takB, decide_eq_true_eq] at hb'
      obtain ⟨w1, w7, a0, a1⟩ := hb'
      obtain ⟨W, rfl⟩ := Int.eq_ofNat_of_zero_le (show 0 ≤ w by omega)
      simp only [Int.toNat_natCast] at *
      obtain ⟨h1, h2⟩ := pk_up ws l (a + W) zs (by omega) hz
      have hv : takV l (a : Nat) (W : Int) = ((valL ((l.drop a).take W) : Nat) : Int) := by
        unfold takV; rw [hb, if_pos rfl]; simp only [Int.toNat_natCast]
      have hlt := val_take_lt l a W
      have hn : numB (takV l (a : Nat) (W : Int)) (W : Int) = true := by
        rw [hv]; simp only [numB, decide_eq_true_eq, Int.toNat_natCast]; omega
      refine ⟨by simp [h1], ?_⟩
      simp only [pk]
      rw [hn, if_pos rfl, h2, hv]
      simp only [Int.toNat_natCast, Option.map_some]
      rw [num_val W _ (by simp; omega)]
      congr 1
      rw [← List.drop_drop, List.take_append_drop]
    next => cases h

theorem back_pk {xs ws : List Int} (h : pkB xs ws = true) : upB (pkS xs ws).data.toList ws = true ∧ upV (pkS xs ws).data.toList ws = xs := by
  unfold pkB at h
  obtain ⟨l, hl⟩ := Option.isSome_iff_exists.1 h
  have hs : (pkS xs ws).data.toList = l := by unfold pkS; rw [hl]; rfl
  unfold pkO at hl
  split at hl
  next hc =>
    have := up_pk xs ws [] l hc.1 hl
    have e : upO l ws = some xs := by unfold upO; rw [if_pos hc.2]; simpa using this
    rw [hs]
    unfold upB upV
    rw [e]
    exact ⟨rfl, rfl⟩
  next => cases hl
theorem pk_none {xs ws : List Int} (h : pkB xs ws = false) : pkS xs ws = ⟨#[]⟩ := by
  unfold pkB at h
  have e : pkO xs ws = none := by simpa using h
  unfold pkS; rw [e]; rfl
theorem up_none {l : List UInt8} {ws : List Int} (h : upB l ws = false) : upV l ws = [] := by
  unfold upB at h
  have e : upO l ws = none := by simpa using h
  unfold upV; rw [e]; rfl
theorem back_up {l : List UInt8} {ws : List Int} (h : upB l ws = true) : pkB (upV l ws) ws = true ∧ (pkS (upV l ws) ws).data.toList = l ∧ (upV l ws).length = ws.length ∧ ws.length ≤ 64 := by
  unfold upB at h
  obtain ⟨ys, hy⟩ := Option.isSome_iff_exists.1 h
  have hv : upV l ws = ys := by unfold upV; rw [hy]; rfl
  unfold upO at hy
  split at hy
  next hc =>
    obtain ⟨h1, h2⟩ := pk_up ws l 0 ys (Nat.zero_le _) hy
    have e : pkO ys ws = some l := by unfold pkO; rw [if_pos ⟨h1, hc⟩, h2]; simp
    rw [hv]
    unfold pkB pkS
    rw [e]
    exact ⟨rfl, rfl, h1, hc⟩
  next => cases hy

theorem pk_len : ∀ (xs ws : List Int) (l : List UInt8), pk xs ws = some l → l.length ≤ 7 * ws.length
  | x :: xs, w :: ws, l, h => by
    simp only [pk] at h
    split at h
    next hb =>
      obtain ⟨r, hr, rfl⟩ := Option.map_eq_some_iff.1 h
      simp only [numB, decide_eq_true_eq] at hb
      have := pk_len xs ws r hr
      rw [List.length_append, numL_len, List.length_cons]
      omega
    next => cases h
  | [], ws, l, h => by simp [pk] at h; subst h; simp
  | _ :: _, [], l, h => by simp [pk] at h; subst h; simp
theorem pkS_size (xs ws : List Int) : (pkS xs ws).size ≤ 448 := by
  show (pkS xs ws).data.size ≤ 448
  rw [← Array.length_toList]
  unfold pkS
  show ((pkO xs ws).getD []).length ≤ 448
  cases h : pkO xs ws with
  | none => simp
  | some l =>
    unfold pkO at h
    split at h
    next hc => have := pk_len xs ws l h; simp; omega
    next => cases h
end Go.Proofs.Yteeiebopfjlffaa
