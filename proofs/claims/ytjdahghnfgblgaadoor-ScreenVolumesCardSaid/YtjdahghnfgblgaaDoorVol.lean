/- Volumes' texts: their lengths, their digits, their order: the mathematics. -/
import Derived.Test.YtjdahghnfgblgaaDoorScr4
namespace Go.Proofs.YtjdahghnfgblgaaDoor
open Go.RowKit
set_option linter.unusedVariables false
set_option linter.unusedSimpArgs false
set_option maxRecDepth 100000

def txL (c : Nat) : List Int := vlL c ++ [32, 109, 76]
theorem vl_tx (c : Nat) : vlS c = strOf (txL c) := by
  unfold vlS txL strOf mlS
  apply ByteArray.ext
  apply Array.toList_inj.1
  rw [ByteArray.data_append, Array.toList_append, List.map_append]
  rfl
def tlL (c : Nat) : List Int := [48 + (dgN c 3 : Int), 46, 48 + (dgN c 2 : Int), 48 + (dgN c 1 : Int), 48 + (dgN c 0 : Int), 32, 109, 76]
theorem tx_forms (c : Nat) (h : c < 100000000) :
    (c < 10000 ∧ txL c = tlL c) ∨ (10000 ≤ c ∧ c < 100000 ∧ txL c = (48 + (dgN c 4 : Int)) :: tlL c) ∨ (100000 ≤ c ∧ c < 1000000 ∧ txL c = (48 + (dgN c 5 : Int)) :: (48 + (dgN c 4 : Int)) :: tlL c) ∨
    (1000000 ≤ c ∧ c < 10000000 ∧ txL c = (48 + (dgN c 6 : Int)) :: (48 + (dgN c 5 : Int)) :: (48 + (dgN c 4 : Int)) :: tlL c) ∨ (10000000 ≤ c ∧ txL c = (48 + (dgN c 7 : Int)) :: (48 + (dgN c 6 : Int)) :: (48 + (dgN c 5 : Int)) :: (48 + (dgN c 4 : Int)) :: tlL c) := by
  have z : ∀ x : Nat, x = 0 → ((48 + (x : Int) : Int) == 48) = true := fun x h => by subst h; rfl
  have nz : ∀ x : Nat, x ≠ 0 → ((48 + (x : Int) : Int) == 48) = false := fun x h => beq_eq_false_iff_ne.2 (by omega)
  unfold txL vlL ldL tlL
  by_cases h1 : c < 10000
  · refine .inl ⟨h1, ?_⟩
    have a7 := z (dgN c 7) (by unfold dgN; omega)
    have a6 := z (dgN c 6) (by unfold dgN; omega)
    have a5 := z (dgN c 5) (by unfold dgN; omega)
    have a4 := z (dgN c 4) (by unfold dgN; omega)
    simp only [List.dropWhile, a7, a6, a5, a4, List.nil_append, List.cons_append]
  · by_cases h2 : c < 100000
    · refine .inr (.inl ⟨by omega, h2, ?_⟩)
      have a7 := z (dgN c 7) (by unfold dgN; omega)
      have a6 := z (dgN c 6) (by unfold dgN; omega)
      have a5 := z (dgN c 5) (by unfold dgN; omega)
      have a4 := nz (dgN c 4) (by unfold dgN; omega)
      simp only [List.dropWhile, a7, a6, a5, a4, List.nil_append, List.cons_append]
    · by_cases h3 : c < 1000000
      · refine .inr (.inr (.inl ⟨by omega, h3, ?_⟩))
        have a7 := z (dgN c 7) (by unfold dgN; omega)
        have a6 := z (dgN c 6) (by unfold dgN; omega)
        have a5 := nz (dgN c 5) (by unfold dgN; omega)
        simp only [List.dropWhile, a7, a6, a5, List.nil_append, List.cons_append]
      · by_cases h4 : c < 10000000
        · refine .inr (.inr (.inr (.inl ⟨by omega, h4, ?_⟩)))
          have a7 := z (dgN c 7) (by unfold dgN; omega)
          have a6 := nz (dgN c 6) (by unfold dgN; omega)
          simp only [List.dropWhile, a7, a6, List.nil_append, List.cons_append]
        · refine .inr (.inr (.inr (.inr ⟨by omega, ?_⟩)))
          have a7 := nz (dgN c 7) (by unfold dgN; omega)
          simp only [List.dropWhile, a7, List.nil_append, List.cons_append]
/-- A text's digits, read as a number. -/
def rdV (n z : Int) : Int := if 48 ≤ z ∧ z ≤ 57 then n * 10 + (z - 48) else n
def vwL (l : List Int) : Int := l.foldl rdV 0
theorem val_step (l : List Int) (k : Nat) (h : k < l.length) : vwL (l.take (k + 1)) = rdV (vwL (l.take k)) (l.getD k 0) := by
  unfold vwL
  rw [List.take_add_one, List.getElem?_eq_getElem h, List.foldl_append, List.getD_eq_getElem?_getD, List.getElem?_eq_getElem h]
  rfl
theorem val_bd : ∀ (l : List Int) (k : Nat), k ≤ l.length → 0 ≤ vwL (l.take k) ∧ vwL (l.take k) < ((10 ^ k : Nat) : Int)
  | l, 0, _ => by simp [vwL]
  | l, k + 1, h => by
    obtain ⟨h0, h1⟩ := val_bd l k (by omega)
    rw [val_step l k (by omega), Nat.pow_succ]
    obtain ⟨P, hP⟩ : ∃ P : Nat, 10 ^ k = P := ⟨_, rfl⟩
    rw [hP] at h1 ⊢
    unfold rdV
    split <;> omega
theorem val_in (l : List Int) (k : Nat) (h : k ≤ l.length) (hk : k ≤ 12) : 0 ≤ vwL (l.take k) ∧ vwL (l.take k) < 1000000000000 := by
  obtain ⟨h0, h1⟩ := val_bd l k h
  have h2 : 10 ^ k ≤ 10 ^ 12 := Nat.pow_le_pow_right (by omega) hk
  rw [show (10 : Nat) ^ 12 = 1000000000000 by decide] at h2
  obtain ⟨P, hP⟩ : ∃ P : Nat, 10 ^ k = P := ⟨_, rfl⟩
  rw [hP] at h1 h2
  omega
theorem tx_val (c : Nat) (h : c < 100000000) : vwL (txL c) = (c : Int) := by
  have d : ∀ j, (48 : Int) ≤ 48 + (dgN c j : Int) ∧ 48 + (dgN c j : Int) ≤ 57 := fun j => by have := dg_lt c j; omega
  have r : ∀ n j, rdV n (48 + (dgN c j : Int)) = n * 10 + (dgN c j : Int) := fun n j => by unfold rdV; rw [if_pos (d j)]; omega
  have o : ∀ n z, z < 48 ∨ 57 < z → rdV n z = n := fun n z hz => by unfold rdV; rw [if_neg (by omega)]
  have t : ∀ n, (tlL c).foldl rdV n = n * 10000 + (c % 10000 : Nat) := fun n => by
    unfold tlL
    simp only [List.foldl_cons, List.foldl_nil, r, o _ 46 (by omega), o _ 32 (by omega), o _ 109 (by omega), o _ 76 (by omega)]
    unfold dgN
    omega
  unfold vwL
  rcases tx_forms c h with ⟨h1, e⟩ | ⟨h0, h1, e⟩ | ⟨h0, h1, e⟩ | ⟨h0, h1, e⟩ | ⟨h0, e⟩
  · rw [e, t]; omega
  all_goals
    rw [e]
    simp only [List.foldl_cons, r, t]
    unfold dgN
    omega
theorem tx_bd (c : Nat) : ∀ z ∈ txL c, 0 ≤ z ∧ z < 128 := by
  intro z hz
  unfold txL vlL at hz
  rcases List.mem_append.1 hz with hz | hz
  · rcases List.mem_append.1 hz with hz | hz
    · have hz := (List.dropWhile_sublist (· == (48 : Int))).subset hz
      have := dgL_bd c z (by unfold dgL; simp only [List.mem_cons, List.not_mem_nil, or_false] at hz ⊢; omega)
      omega
    · simp only [List.mem_cons, List.not_mem_nil, or_false] at hz
      have h0 := dg_lt c 0; have h1 := dg_lt c 1; have h2 := dg_lt c 2; have h3 := dg_lt c 3
      omega
  · simp only [List.mem_cons, List.not_mem_nil, or_false] at hz
    omega
theorem vl_size (c : Nat) : (vlS c).size = (txL c).length := by
  rw [vl_tx]
  show ((txL c).map _).toArray.size = _
  rw [List.size_toArray, List.length_map]
theorem tx_len (c : Nat) (h : c < 100000000) : 8 ≤ (txL c).length ∧ (txL c).length ≤ 12 := by
  rcases tx_forms c h with ⟨h1, e⟩ | ⟨h0, h1, e⟩ | ⟨h0, h1, e⟩ | ⟨h0, h1, e⟩ | ⟨h0, e⟩ <;> (rw [e]; simp [tlL])
theorem str_list (zs : List Int) : (strOf zs).toList = zs.map fun z => UInt8.ofNat z.toNat := by rw [ByteArray.toList_eq]; rfl
theorem vl_eq (a b : Nat) (ha : a < 100000000) (hb : b < 100000000) : ((vlS a).toList == (vlS b).toList) = decide (a = b) := by
  rw [Bool.eq_iff_iff, beq_iff_eq, decide_eq_true_eq]
  constructor
  · intro e
    have e2 : vlS a = vlS b := by
      rw [ByteArray.toList_eq, ByteArray.toList_eq] at e
      exact ByteArray.ext (Array.toList_inj.1 e)
    rw [vl_tx, vl_tx] at e2
    have e3 := congrArg numsOf e2
    rw [nums_str (fun z hz => by have := tx_bd a z hz; omega), nums_str (fun z hz => by have := tx_bd b z hz; omega)] at e3
    have e4 := tx_val a ha
    rw [e3, tx_val b hb] at e4
    omega
  · rintro rfl
    rfl
/-! ### Their order -/
def lsL : List Int → List Int → Bool
  | _, [] => false
  | [], _ :: _ => true
  | a :: x, b :: y => decide (a < b) || (decide (a = b) && lsL x y)
theorem ls_bytes : ∀ (X Y : List Int), (∀ z ∈ X, 0 ≤ z ∧ z < 128) → (∀ z ∈ Y, 0 ≤ z ∧ z < 128) → Op.bytesLess (X.map fun z => UInt8.ofNat z.toNat) (Y.map fun z => UInt8.ofNat z.toNat) = lsL X Y
  | X, [], _, _ => by cases X <;> rfl
  | [], y :: Y, _, _ => rfl
  | x :: X, y :: Y, hX, hY => by
    have hx := hX x (by simp)
    have hy := hY y (by simp)
    simp only [List.map_cons, Op.bytesLess, lsL]
    rw [ls_bytes X Y (fun z hz => hX z (by simp [hz])) (fun z hz => hY z (by simp [hz]))]
    have tx : (UInt8.ofNat x.toNat).toNat = x.toNat := by rw [UInt8.toNat_ofNat']; omega
    have ty : (UInt8.ofNat y.toNat).toNat = y.toNat := by rw [UInt8.toNat_ofNat']; omega
    have e1 : decide (UInt8.ofNat x.toNat < UInt8.ofNat y.toNat) = decide (x < y) := by
      rw [decide_eq_decide, UInt8.lt_iff_toNat_lt, tx, ty]; omega
    have e2 : (UInt8.ofNat x.toNat == UInt8.ofNat y.toNat) = decide (x = y) := by
      rw [Bool.eq_iff_iff, beq_iff_eq, decide_eq_true_eq, ← UInt8.toNat_inj, tx, ty]; omega
    rw [e1, e2]
/-- Two lists of one shape: digits where there are digits, else the same. -/
def Sh : List Int → List Int → Prop
  | [], [] => True
  | x :: X, y :: Y => ((48 ≤ x ∧ x ≤ 57 ∧ 48 ≤ y ∧ y ≤ 57) ∨ (x = y ∧ (x < 48 ∨ 57 < x))) ∧ Sh X Y
  | [], _ :: _ => False
  | _ :: _, [] => False
theorem sh_mono : ∀ (X Y : List Int) (n m : Int), Sh X Y → m < n → Y.foldl rdV m < X.foldl rdV n
  | [], [], n, m, _, h => h
  | x :: X, y :: Y, n, m, hs, h => by
    obtain ⟨hd, ht⟩ := hs
    rw [List.foldl_cons, List.foldl_cons]
    refine sh_mono X Y _ _ ht ?_
    unfold rdV
    rcases hd with hd | ⟨rfl, hd⟩
    · rw [if_pos (by omega), if_pos (by omega)]; omega
    · rw [if_neg (by omega), if_neg (by omega)]; exact h
  | [], _ :: _, _, _, hs, _ => hs.elim
  | _ :: _, [], _, _, hs, _ => hs.elim
theorem sh_less : ∀ (X Y : List Int) (n : Int), Sh X Y → X.foldl rdV n < Y.foldl rdV n → lsL X Y = true
  | [], [], n, _, h => by simp at h
  | x :: X, y :: Y, n, hs, h => by
    obtain ⟨hd, ht⟩ := hs
    rw [List.foldl_cons, List.foldl_cons] at h
    unfold lsL
    rcases hd with hd | ⟨rfl, hd⟩
    · rcases Int.lt_trichotomy x y with h1 | h1 | h1
      · simp [h1]
      · subst h1
        have := sh_less X Y _ ht h
        simp [this]
      · exfalso
        have h2 : rdV n y < rdV n x := by unfold rdV; rw [if_pos (by omega), if_pos (by omega)]; omega
        have := sh_mono X Y _ _ ht h2
        omega
    · have := sh_less X Y _ ht h
      simp [this]
  | [], _ :: _, _, hs, _ => hs.elim
  | _ :: _, [], _, hs, _ => hs.elim
theorem sh_dig (a b j : Nat) {X Y : List Int} (h : Sh X Y) : Sh ((48 + (dgN a j : Int)) :: X) ((48 + (dgN b j : Int)) :: Y) := by
  have h1 := dg_lt a j
  have h2 := dg_lt b j
  exact ⟨.inl (by omega), h⟩
theorem sh_sym (z : Int) (hz : z < 48 ∨ 57 < z) {X Y : List Int} (h : Sh X Y) : Sh (z :: X) (z :: Y) := ⟨.inr ⟨rfl, hz⟩, h⟩
theorem sh_tl (a b : Nat) : Sh (tlL a) (tlL b) :=
  sh_dig a b 3 (sh_sym 46 (by omega) (sh_dig a b 2 (sh_dig a b 1 (sh_dig a b 0 (sh_sym 32 (by omega) (sh_sym 109 (by omega) (sh_sym 76 (by omega) trivial)))))))
theorem vl_less (a b : Nat) (ha : a < 100000000) (hb : b < 100000000) (h : a < b) :
    (txL a).length < (txL b).length ∨ ((txL a).length = (txL b).length ∧ Op.bytesLess (vlS a).toList (vlS b).toList = true) := by
  have key : Sh (txL a) (txL b) → Op.bytesLess (vlS a).toList (vlS b).toList = true := fun hs => by
    rw [vl_tx, vl_tx, str_list, str_list, ls_bytes _ _ (tx_bd a) (tx_bd b)]
    refine sh_less _ _ 0 hs ?_
    have h1 := tx_val a ha
    have h2 := tx_val b hb
    unfold vwL at h1 h2
    omega
  rcases tx_forms a ha with ⟨a1, ea⟩ | ⟨a0, a1, ea⟩ | ⟨a0, a1, ea⟩ | ⟨a0, a1, ea⟩ | ⟨a0, ea⟩ <;>
  rcases tx_forms b hb with ⟨b1, eb⟩ | ⟨b0, b1, eb⟩ | ⟨b0, b1, eb⟩ | ⟨b0, b1, eb⟩ | ⟨b0, eb⟩ <;>
  first
    | (exfalso; omega)
    | (left; rw [ea, eb]; simp [tlL]; done)
    | (right; refine ⟨by rw [ea, eb]; simp [tlL], key ?_⟩; rw [ea, eb]; first | exact sh_tl a b | exact sh_dig a b 4 (sh_tl a b) | exact sh_dig a b 5 (sh_dig a b 4 (sh_tl a b)) | exact sh_dig a b 6 (sh_dig a b 5 (sh_dig a b 4 (sh_tl a b))) | exact sh_dig a b 7 (sh_dig a b 6 (sh_dig a b 5 (sh_dig a b 4 (sh_tl a b)))))
end Go.Proofs.YtjdahghnfgblgaaDoor
