/- Frames of the display: the bytes that show a face: the mathematics. -/
import Derived.Test.YtjdahghnfgblgaaDoorCodeN
import Derived.Test.YtjdahghnfgblgaaDoorOpen
import Derived.Test.YtjdahghnfgblgaaDoorLaw6
import Derived.Test.YtjdahghnfgblgaaDoorShut
namespace Go.Proofs.YtjdahghnfgblgaaDoor
set_option maxRecDepth 100000
open Go.RowKit
set_option linter.unusedVariables false
set_option linter.unusedSimpArgs false

def wsS : List Int := [1, 1, 1, 2, 1, 4, 2, 2]
def hdS : ByteArray := ⟨#[68]⟩
/-- The frame that shows these numbers: none, where there is no room. -/
def fcS (xs : List Int) : ByteArray := if pkB xs wsS = true then sealB (hdS ++ pkS xs wsS) else ⟨#[]⟩
/-- Behind the head. -/
def hdB (t : ByteArray) : Bool := decide (1 ≤ t.size) && (t.data.toList.take 1 == [68])
def rwS (t : ByteArray) : ByteArray := if hdB t = true then t.extract 1 t.size else t
def fpL (s : ByteArray) : List Int := upV (rwS (toldB s)).data.toList wsS
def fpB (s : ByteArray) : Bool := openB s && (hdB (toldB s) && upB (rwS (toldB s)).data.toList wsS)
def fpV (s : ByteArray) (i : Nat) : Int := if fpB s = true then (fpL s).getD i 0 else 0

theorem pk_lenS : ∀ (xs ws : List Int) (l : List UInt8), xs.length = ws.length → pk xs ws = some l → l.length = (ws.map Int.toNat).sum
  | [], [], l, _, h => by simp [pk] at h; subst h; rfl
  | x :: xs, w :: ws, l, hl, h => by
    simp only [pk] at h
    split at h
    next hb =>
      obtain ⟨r, hr, rfl⟩ := Option.map_eq_some_iff.1 h
      have ih := pk_lenS xs ws r (by simpa using hl) hr
      rw [List.length_append, numL_len, ih]
      simp
    next => cases h
  | [], _ :: _, _, hl, _ => by simp at hl
  | _ :: _, [], _, hl, _ => by simp at hl
theorem pkS_lenS {xs : List Int} (h : pkB xs wsS = true) : (pkS xs wsS).size = 14 := by
  unfold pkB at h
  obtain ⟨l, hl⟩ := Option.isSome_iff_exists.1 h
  have hs : (pkS xs wsS).data.toList = l := by unfold pkS; rw [hl]; rfl
  have h2 : l.length = 14 := by
    unfold pkO at hl
    split at hl
    next hc => exact pk_lenS xs wsS l hc.1 hl
    next => cases hl
  rw [← hs, Array.length_toList] at h2
  exact h2
theorem hd_app (r : ByteArray) : hdB (hdS ++ r) = true ∧ rwS (hdS ++ r) = r := by
  have hs : (hdS ++ r).size = 1 + r.size := by rw [ByteArray.size_append]; rfl
  have hl : (hdS ++ r).data.toList = 68 :: r.data.toList := by rw [ByteArray.data_append]; simp [hdS]
  have hb : hdB (hdS ++ r) = true := by
    unfold hdB
    rw [hl, hs, Bool.and_eq_true, decide_eq_true_eq]
    exact ⟨by omega, by simp⟩
  refine ⟨hb, ?_⟩
  unfold rwS
  rw [if_pos hb]
  apply ByteArray.ext
  apply Array.toList_inj.1
  rw [ByteArray.data_extract, Array.toList_extract, hl]
  have hz : (hdS ++ r).size = r.data.toList.length + 1 := by rw [hs, Array.length_toList]; show 1 + r.data.size = _; omega
  rw [hz]
  simp only [List.extract, List.drop_succ_cons, List.drop_zero, Nat.add_sub_cancel]
  exact List.take_of_length_le (Nat.le_refl _)
theorem hd_back {t : ByteArray} (h : hdB t = true) : hdS ++ rwS t = t := by
  have h' := h
  unfold hdB at h'
  rw [Bool.and_eq_true, decide_eq_true_eq] at h'
  obtain ⟨h1, h2⟩ := h'
  have h2 := eq_of_beq h2
  unfold rwS
  rw [if_pos h]
  apply ByteArray.ext
  apply Array.toList_inj.1
  rw [ByteArray.data_append, ByteArray.data_extract, Array.toList_append, Array.toList_extract]
  have hz : t.size = t.data.toList.length := by rw [Array.length_toList]; rfl
  rw [hz]
  simp only [List.extract]
  rw [List.take_of_length_le (by simp), show (hdS.data.toList : List UInt8) = [68] from rfl, ← h2, List.take_append_drop]
theorem fc_none {xs : List Int} (h : pkB xs wsS = false) : fcS xs = ⟨#[]⟩ := by unfold fcS; rw [if_neg (by rw [h]; simp)]
theorem fc_is {xs : List Int} (h : pkB xs wsS = true) : fcS xs = sealB (hdS ++ pkS xs wsS) := by unfold fcS; rw [if_pos h]
theorem fc_size {xs : List Int} (h : pkB xs wsS = true) : (fcS xs).size = 17 := by
  rw [fc_is h, seal_size, ByteArray.size_append, pkS_lenS h]; rfl
theorem fpL_put {xs : List Int} (h : pkB xs wsS = true) : fpL (fcS xs) = xs := by
  unfold fpL
  rw [fc_is h, told_seal, (hd_app _).2]
  exact (back_pk h).2
theorem pr_put {xs : List Int} (h : pkB xs wsS = true) : fpB (fcS xs) = true := by
  unfold fpB
  rw [fc_is h, told_seal, open_seal, (hd_app _).1, (hd_app _).2, (back_pk h).1]
  rfl
theorem fpV_put {xs : List Int} (h : pkB xs wsS = true) (i : Nat) : fpV (fcS xs) i = xs.getD i 0 := by
  unfold fpV
  rw [if_pos (pr_put h), fpL_put h]
theorem pr_none {s : ByteArray} (h : fpB s = false) (i : Nat) : fpV s i = 0 := by unfold fpV; rw [if_neg (by rw [h]; simp)]
theorem open_seal_inS {s : ByteArray} (h : openB s = true) : sealB (toldB s) = s := by
  unfold toldB
  rw [if_pos h]
  unfold openB at h
  rw [Bool.and_eq_true] at h
  have e := eq_of_beq h.2
  rw [ByteArray.toList_eq, ByteArray.toList_eq] at e
  exact ByteArray.ext (Array.toList_inj.1 e)
theorem eightS {l : List Int} (h : l.length = 8) : l = [l.getD 0 0, l.getD 1 0, l.getD 2 0, l.getD 3 0, l.getD 4 0, l.getD 5 0, l.getD 6 0, l.getD 7 0] := by
  match l, h with
  | [_, _, _, _, _, _, _, _], _ => rfl
theorem pr_parts {s : ByteArray} (h : fpB s = true) : openB s = true ∧ hdB (toldB s) = true ∧ upB (rwS (toldB s)).data.toList wsS = true := by
  unfold fpB at h
  simp only [Bool.and_eq_true] at h
  exact h
theorem pr_list {s : ByteArray} (h : fpB s = true) : [fpV s 0, fpV s 1, fpV s 2, fpV s 3, fpV s 4, fpV s 5, fpV s 6, fpV s 7] = fpL s := by
  obtain ⟨_, _, h3⟩ := pr_parts h
  have := eightS (l := fpL s) (by unfold fpL; rw [(back_up h3).2.2.1]; rfl)
  rw [this]
  unfold fpV
  simp only [h, if_true]
theorem pr_pk {s : ByteArray} (h : fpB s = true) : pkB (fpL s) wsS = true := (back_up (pr_parts h).2.2).1
theorem pr_back {s : ByteArray} (h : fpB s = true) : fcS (fpL s) = s := by
  obtain ⟨h1, h2, h3⟩ := pr_parts h
  obtain ⟨b1, b2, _⟩ := back_up h3
  rw [fc_is (pr_pk h), show pkS (fpL s) wsS = rwS (toldB s) from ByteArray.ext (Array.toList_inj.1 b2), hd_back h2]
  exact open_seal_inS h1
end Go.Proofs.YtjdahghnfgblgaaDoor
