/- What is put is got, what is got is put; the law's awake. -/
import Derived.Test.YteeiebopfjlffaaAlike
namespace Go.Proofs.Yteeiebopfjlffaa
open Go.RowKit Ieee
set_option linter.unusedVariables false
set_option linter.unusedSimpArgs false
set_option maxRecDepth 100000

theorem pu_is {l : List Sp} (h : puB l = true) : puS l = sealB ⟨(enL l).toArray⟩ ∧ okB l = true ∧ l.length ≤ 320 := by
  have h2 := h
  unfold puB at h2
  rw [Bool.and_eq_true, decide_eq_true_eq] at h2
  unfold puS
  rw [h, if_pos rfl]
  exact ⟨rfl, h2.2, h2.1⟩
theorem pu_size {l : List Sp} : (puS l).size ≤ 100000 := by
  cases h : puB l
  · unfold puS; rw [h]; exact Nat.zero_le _
  · obtain ⟨e, ho, hn⟩ := pu_is h
    rw [e, seal_size]
    have := en_len l ho
    have hs : (ByteArray.mk (enL l).toArray).size = (enL l).length := List.size_toArray
    omega
/-- What is put is got. -/
theorem got_put {l ms : List Sp} {ok : Bool} (wl : wfL l) (wm : wfL ms) (h : puB l = true) (g : Got (toldB (puS l)).data.toList (openB (puS l)) ok ms) :
    ok = true ∧ ms.map nrm = l.map nrm ∧ puB ms = true ∧ puS ms = puS l := by
  obtain ⟨e, ho, hn⟩ := pu_is h
  rw [e, open_seal, told_seal] at g
  have g : Got (enL l) true ok ms := g
  cases ok with
  | false => exact absurd rfl ((g.2 rfl).2 rfl l wl ho hn)
  | true =>
    obtain ⟨_, hm, he, hl⟩ := g.1 rfl
    have hp : puB ms = true := by unfold puB; rw [hm, decide_eq_true hl]; rfl
    refine ⟨rfl, en_same ms l wm wl hm ho he, hp, ?_⟩
    rw [(pu_is hp).1, e, he]
/-- What is got is put. -/
theorem put_got {s : ByteArray} {ms : List Sp} (g : Got (toldB s).data.toList (openB s) true ms) : puB ms = true ∧ puS ms = s := by
  obtain ⟨hop, hm, he, hl⟩ := g.1 rfl
  have hp : puB ms = true := by unfold puB; rw [hm, decide_eq_true hl]; rfl
  refine ⟨hp, ?_⟩
  rw [(pu_is hp).1, he]
  have ht : (⟨(toldB s).data.toList.toArray⟩ : ByteArray) = toldB s := by cases toldB s; simp
  rw [ht]
  unfold toldB
  rw [hop, if_pos rfl]
  unfold openB at hop
  rw [Bool.and_eq_true] at hop
  have := hop.2
  rw [beq_iff_eq, ByteArray.toList_eq, ByteArray.toList_eq] at this
  apply ByteArray.ext
  exact Array.ext' this
theorem same_at {f g : Nat → Sp} {n : Nat} (h : (spL g n).map nrm = (spL f n).map nrm) : ∀ i, i < n → nrm (f i) = nrm (g i) := fun i hi => by
  have := congrArg (fun l : List Sp => l[i]?) h
  simp [spL, hi] at this
  exact this.symm
theorem Stp.wf {w : World} {A : Option Addr} {n : Nat} {f : Nat → Sp} (h : Stp w A n f) : wfL (spL f n) := fun x hx => by
  simp [spL] at hx
  obtain ⟨i, hi, rfl⟩ := hx
  exact (h.1 i hi).1
theorem same_len {f g : Nat → Sp} {n m : Nat} (h : (spL g m).map nrm = (spL f n).map nrm) : m = n := by
  have := congrArg List.length h
  simpa [spL] using this

def awL : List UInt8 := [0, 1, 6, 63, 248, 0, 0, 0, 0, 0, 0, 4, 3, 1, 3, 1, 2, 97, 98]
def awF (x : Nat) (i : Nat) : Sp := if i = 0 then ⟨⟨x, 4609434218613702656, 9223372036854775808, 9218868437227405312, true, 3, false⟩, false, ⟨#[]⟩⟩ else ⟨noR, true, ⟨#[97, 98]⟩⟩
theorem aw_bytes (x : Nat) (h : nanB x = true) : puB (spL (awF x) 2) = true ∧ puS (spL (awF x) 2) = sealB ⟨awL.toArray⟩ := by
  have e0 : reL x = [1] := by unfold reL; rw [kd_nan h]; rfl
  have e1 : reL 4609434218613702656 = [6, 63, 248, 0, 0, 0, 0, 0, 0] := by decide +kernel
  have e2 : reL 9223372036854775808 = [4] := by decide +kernel
  have e3 : reL 9218868437227405312 = [3] := by decide +kernel
  have hl : spL (awF x) 2 = [awF x 0, awF x 1] := rfl
  have hp : puB (spL (awF x) 2) = true := rfl
  refine ⟨hp, ?_⟩
  rw [(pu_is hp).1, hl]
  have s0 : stL (awF x 0) = [0, 1, 6, 63, 248, 0, 0, 0, 0, 0, 0, 4, 3, 1, 3] := by
    show tkL ⟨x, 4609434218613702656, 9223372036854775808, 9218868437227405312, true, 3, false⟩ = _
    unfold tkL
    simp only
    rw [e0, e1, e2, e3]
    rfl
  have s1 : stL (awF x 1) = [1, 2, 97, 98] := rfl
  show sealB ⟨(stL (awF x 0) ++ (stL (awF x 1) ++ [])).toArray⟩ = _
  rw [s0, s1]
  rfl
theorem aw_no : openB (sealB ⟨awL.toArray⟩ ++ ⟨#[120]⟩) = false := by decide +kernel
theorem aw_size : (sealB ⟨awL.toArray⟩).size = 21 := by rw [seal_size]; rfl
end Go.Proofs.Yteeiebopfjlffaa
