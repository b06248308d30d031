/- Entries: which may be, and the bytes that tell them: the mathematics. -/
import Derived.Test.YthibaehiponfnaaProgm
import Derived.Test.YthibaehiponfnaaCodeN
import Derived.Test.YthibaehiponfnaaOpen
import Derived.Test.YthibaehiponfnaaLaw6
namespace Go.Proofs.Ythibaehiponfnaa
set_option maxRecDepth 100000
open Go.RowKit
set_option linter.unusedVariables false
set_option linter.unusedSimpArgs false

def wsL : List Int := [4, 1, 2, 2, 1, 1, 4, 4]
def pgB (r v k : Int) : Bool := decide (r = 0 ∧ v = 0 ∧ k = 0) || decide (ckV r v k = 0)
def tlB (t d b : Int) : Bool := (decide (t = 0) || knB t) && decide (0 ≤ d ∧ d ≤ 4294967295 ∧ 0 ≤ b ∧ b ≤ 99999999)
/-- An entry may be. -/
def enB (q m r v k t d b : Int) : Bool := decide (1 ≤ q ∧ q ≤ 4294967295 ∧ 1 ≤ m ∧ m ≤ 7) && (pgB r v k && tlB t d b)

theorem en_bd {q m r v k t d b : Int} (h : enB q m r v k t d b = true) : 1 ≤ q ∧ q ≤ 4294967295 ∧ 1 ≤ m ∧ m ≤ 7 ∧ 0 ≤ r ∧ r ≤ 1000 ∧ 0 ≤ v ∧ v ≤ 5000 ∧ 0 ≤ k ∧ k ≤ 60 ∧ 0 ≤ t ∧ t ≤ 60 ∧ 0 ≤ d ∧ d ≤ 4294967295 ∧ 0 ≤ b ∧ b ≤ 99999999 := by
  unfold enB pgB tlB at h
  simp only [Bool.and_eq_true, Bool.or_eq_true, decide_eq_true_eq] at h
  obtain ⟨⟨h1, h2, h3, h4⟩, h5, h6, h7, h8, h9, h10⟩ := h
  have ht : 0 ≤ t ∧ t ≤ 60 := by
    rcases h6 with rfl | h6
    · omega
    · have := kn_of h6; unfold Kn at this; omega
  rcases h5 with ⟨rfl, rfl, rfl⟩ | h5
  · omega
  · obtain ⟨hk, c⟩ := ck_ok h5
    unfold Kn at hk
    omega

theorem pk_len19 : ∀ (xs ws : List Int) (l : List UInt8), xs.length = ws.length → pk xs ws = some l → l.length = (ws.map Int.toNat).sum
  | [], [], l, _, h => by simp [pk] at h; subst h; rfl
  | x :: xs, w :: ws, l, hl, h => by
    simp only [pk] at h
    split at h
    next hb =>
      obtain ⟨r, hr, rfl⟩ := Option.map_eq_some_iff.1 h
      have ih := pk_len19 xs ws r (by simpa using hl) hr
      rw [List.length_append, numL_len, ih]
      simp
    next => cases h
  | [], _ :: _, _, hl, _ => by simp at hl
  | _ :: _, [], _, hl, _ => by simp at hl
theorem pkS_len {xs : List Int} (h : pkB xs wsL = true) : (pkS xs wsL).data.toList.length = 19 := by
  unfold pkB at h
  obtain ⟨l, hl⟩ := Option.isSome_iff_exists.1 h
  have hs : (pkS xs wsL).data.toList = l := by unfold pkS; rw [hl]; rfl
  rw [hs]
  unfold pkO at hl
  split at hl
  next hc => exact pk_len19 xs wsL l hc.1 hl
  next => cases hl
theorem up_len {l : List UInt8} (h : upB l wsL = true) : l.length = 19 := by
  obtain ⟨h1, h2, _⟩ := back_up h
  rw [← h2]
  exact pkS_len h1

theorem en_pk {q m r v k t d b : Int} (h : enB q m r v k t d b = true) : pkB [q, m, r, v, k, t, d, b] wsL = true := by
  have hb := en_bd h
  have n1 : numB q 4 = true := by unfold numB; rw [decide_eq_true_eq, show ((256 ^ (4 : Int).toNat : Nat) : Int) = 4294967296 by decide]; omega
  have n2 : numB m 1 = true := by unfold numB; rw [decide_eq_true_eq, show ((256 ^ (1 : Int).toNat : Nat) : Int) = 256 by decide]; omega
  have n3 : numB r 2 = true := by unfold numB; rw [decide_eq_true_eq, show ((256 ^ (2 : Int).toNat : Nat) : Int) = 65536 by decide]; omega
  have n4 : numB v 2 = true := by unfold numB; rw [decide_eq_true_eq, show ((256 ^ (2 : Int).toNat : Nat) : Int) = 65536 by decide]; omega
  have n5 : numB k 1 = true := by unfold numB; rw [decide_eq_true_eq, show ((256 ^ (1 : Int).toNat : Nat) : Int) = 256 by decide]; omega
  have n6 : numB t 1 = true := by unfold numB; rw [decide_eq_true_eq, show ((256 ^ (1 : Int).toNat : Nat) : Int) = 256 by decide]; omega
  have n7 : numB d 4 = true := by unfold numB; rw [decide_eq_true_eq, show ((256 ^ (4 : Int).toNat : Nat) : Int) = 4294967296 by decide]; omega
  have n8 : numB b 4 = true := by unfold numB; rw [decide_eq_true_eq, show ((256 ^ (4 : Int).toNat : Nat) : Int) = 4294967296 by decide]; omega
  unfold pkB pkO wsL
  rw [if_pos (by simp)]
  simp only [pk, n1, n2, n3, n4, n5, n6, n7, n8, if_true, Option.map_some, Option.isSome_some]

/-- What tells an entry: none, if it may not be. -/
def ptS (q m r v k t d b : Int) : ByteArray := if enB q m r v k t d b = true then sealB (pkS [q, m, r, v, k, t, d, b] wsL) else ⟨#[]⟩
def gtL (s : ByteArray) : List Int := upV (toldB s).data.toList wsL
def gtB (s : ByteArray) : Bool := openB s && (upB (toldB s).data.toList wsL && enB ((gtL s).getD 0 0) ((gtL s).getD 1 0) ((gtL s).getD 2 0) ((gtL s).getD 3 0) ((gtL s).getD 4 0) ((gtL s).getD 5 0) ((gtL s).getD 6 0) ((gtL s).getD 7 0))
def gtV (s : ByteArray) (i : Nat) : Int := if gtB s = true then (gtL s).getD i 0 else 0

theorem pt_size {q m r v k t d b : Int} (h : enB q m r v k t d b = true) : (ptS q m r v k t d b).size = 21 := by
  unfold ptS
  rw [if_pos h, seal_size]
  have := pkS_len (en_pk h)
  rw [Array.length_toList] at this
  show (pkS [q, m, r, v, k, t, d, b] wsL).data.size + 2 = 21
  rw [this]
theorem gtL_put {q m r v k t d b : Int} (h : enB q m r v k t d b = true) : gtL (ptS q m r v k t d b) = [q, m, r, v, k, t, d, b] := by
  unfold gtL ptS
  rw [if_pos h, told_seal]
  exact (back_pk (en_pk h)).2
theorem gt_put {q m r v k t d b : Int} (h : enB q m r v k t d b = true) : gtB (ptS q m r v k t d b) = true := by
  unfold gtB
  rw [gtL_put h]
  unfold ptS
  rw [if_pos h, told_seal, open_seal, (back_pk (en_pk h)).1]
  simpa using h
theorem gtV_put {q m r v k t d b : Int} (h : enB q m r v k t d b = true) (i : Nat) : gtV (ptS q m r v k t d b) i = [q, m, r, v, k, t, d, b].getD i 0 := by
  unfold gtV
  rw [if_pos (gt_put h), gtL_put h]
theorem gt_none {s : ByteArray} (h : gtB s = false) (i : Nat) : gtV s i = 0 := by unfold gtV; rw [if_neg (by rw [h]; simp)]
theorem pt_none {q m r v k t d b : Int} (h : enB q m r v k t d b = false) : ptS q m r v k t d b = ⟨#[]⟩ := by unfold ptS; rw [if_neg (by rw [h]; simp)]
theorem open_seal_in {s : ByteArray} (h : openB s = true) : sealB (toldB s) = s := by
  unfold toldB
  rw [if_pos h]
  unfold openB at h
  rw [Bool.and_eq_true] at h
  have e := eq_of_beq h.2
  rw [ByteArray.toList_eq, ByteArray.toList_eq] at e
  exact ByteArray.ext (Array.toList_inj.1 e)
theorem eight {l : List Int} (h : l.length = 8) : l = [l.getD 0 0, l.getD 1 0, l.getD 2 0, l.getD 3 0, l.getD 4 0, l.getD 5 0, l.getD 6 0, l.getD 7 0] := by
  match l, h with
  | [_, _, _, _, _, _, _, _], _ => rfl
theorem gt_parts {s : ByteArray} (h : gtB s = true) : openB s = true ∧ upB (toldB s).data.toList wsL = true ∧ enB (gtV s 0) (gtV s 1) (gtV s 2) (gtV s 3) (gtV s 4) (gtV s 5) (gtV s 6) (gtV s 7) = true := by
  have h' := h
  unfold gtB at h'
  simp only [Bool.and_eq_true] at h'
  obtain ⟨h1, h2, h3⟩ := h'
  refine ⟨h1, h2, ?_⟩
  unfold gtV
  simp only [h, if_true]
  exact h3
theorem gt_back {s : ByteArray} (h : gtB s = true) : ptS (gtV s 0) (gtV s 1) (gtV s 2) (gtV s 3) (gtV s 4) (gtV s 5) (gtV s 6) (gtV s 7) = s := by
  obtain ⟨h1, h2, h3⟩ := gt_parts h
  unfold ptS
  rw [if_pos h3]
  obtain ⟨_, b2, b3, _⟩ := back_up h2
  have e : [gtV s 0, gtV s 1, gtV s 2, gtV s 3, gtV s 4, gtV s 5, gtV s 6, gtV s 7] = upV (toldB s).data.toList wsL := by
    have := eight (l := upV (toldB s).data.toList wsL) (by rw [b3]; rfl)
    rw [this]
    unfold gtV gtL
    simp only [h, if_true]
  rw [e, show pkS (upV (toldB s).data.toList wsL) wsL = toldB s from ByteArray.ext (Array.toList_inj.1 b2)]
  exact open_seal_in h1
theorem gt_size {s : ByteArray} (h : gtB s = true) : s.size = 21 := by
  have := pt_size (gt_parts h).2.2
  rwa [gt_back h] at this
end Go.Proofs.Ythibaehiponfnaa
