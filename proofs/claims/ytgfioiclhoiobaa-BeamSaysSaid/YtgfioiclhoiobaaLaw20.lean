/- The law package's own check of the beam; what its laws take of a stream. -/
import Derived.Test.YtgfioiclhoiobaaBeamN
import Derived.Test.YtgfioiclhoiobaaBox
namespace Go.Proofs.Ytgfioiclhoiobaa
open Go.RowKit
set_option linter.unusedVariables false
attribute [local go_sem] cell_set_ite

theorem Truths.first {w : World} {A : Option Addr} {n m : Nat} {ps : List Bool} (h : Truths w A n ps) (hm : m ≤ n) : Truths w A m (ps.take m) := by
  refine ⟨by rw [List.length_take, h.1]; omega, fun h0 => ?_⟩
  obtain ⟨b, off, e, hb, hc⟩ := h.2 (by omega)
  refine ⟨b, off, e, hb, fun i hi => ?_⟩
  rw [hc i (by omega)]
  simp [List.getD, List.getElem?_take_of_lt hi]
theorem Truths.cut {w : World} {b off n k m : Nat} {ps : List Bool} (h : Truths w (some ⟨b, off, Option.none⟩) n ps) (hm : k + m ≤ n) : Truths w (some ⟨b, off + k, Option.none⟩) m ((ps.drop k).take m) := by
  refine ⟨by rw [List.length_take, List.length_drop, h.1]; omega, fun h0 => ?_⟩
  obtain ⟨b', off', e, hb, hc⟩ := h.2 (by omega)
  cases e
  refine ⟨b, off + k, rfl, hb, fun i hi => ?_⟩
  rw [Nat.add_assoc, hc (k + i) (by omega)]
  simp [List.getD, List.getElem?_take_of_lt hi]
theorem l20_stream {ps : List Bool} {A : Option Addr} {n c : Nat} (W w : World) (hT : Truths W A n ps) (hn : n ≤ 9223372036854775807) (h : At W w) :
    Calls Try.prog 9 #[.slice A n c] w fun e w' => e = .returned (.bool (strB ps n)) ∧ At W w' :=
  (bm_stream ps A n c w (hT.below h) hn).mono fun _ _ ⟨he, hb⟩ => ⟨he, h.below hb⟩

def trues (n : Nat) : List Bool := List.replicate n true
theorem trues_at {n i : Nat} (h : i < n) : (trues n).getD i false = true := by
  unfold trues
  rw [List.getD_eq_getElem?_getD, List.getElem?_replicate, if_pos h]
  rfl
theorem str_12 : strB (trues 12) 12 = true := by decide +kernel
theorem str_11 : strB (trues 11) 11 = false := by decide +kernel

set_option maxHeartbeats 1000000 in
theorem law20_awake (w : World) : Calls Try.prog 6 #[] w fun e w' => e = .returned (.bool true) ∧ Below w.heap.size w w' := by
  have e1 : sgV 0 true = 1 := by decide +kernel
  have e2 : sgV 1 true = 2 := by decide +kernel
  have e3 : sgV 2 true = 3 := by decide +kernel
  have e4 : sgV 3 false = 0 := by decide +kernel
  go_enter Try.func6, Try.ntmps6
  go_wp2_with (first
    | (go_at_call 7; refine (bm_step _ _ _).mono ?_; rintro e w' ⟨rfl, rfl⟩)
    | (refine make_truths rfl _ _ rfl 12 rfl rfl rfl rfl (by omega) ?_; intro w1 ho hb))
  obtain ⟨ys, hys⟩ : ∃ ys, List.replicate 12 false = ys := ⟨_, rfl⟩
  rw [hys] at ho
  clear hys
  generalize hg : w.heap.size = g at *
  have HG := Lib.hid hg
  clear hg
  go_loopw [3, 10] (fun _ i wr => ∃ (k : Nat) (ys : List Bool), k ≤ 12 ∧ i = .int .i64 k ∧ wr.ownsRow g 4 1 (.slice (some ⟨g, 0, none⟩) 12 12) 12 (ys.map Value.bool) ∧ Hid (∀ j, j < k → j < 12 → ys.getD j false = true) ∧ Below g w wr) (fun _ i _ => 12 - (intOf i).toNat)
  case atStart => exact ⟨0, ys, by omega, rfl, ho, fun j hj => absurd hj (by omega), hb⟩
  case round =>
    clear ho hb
    clear ys
    obtain ⟨k, ys, hk, rfl, ho, HT, hb⟩ := hrel
    have hlen : ys.length = 12 := by simpa using ho.1
    by_cases hlt : k < 12
    · obtain ⟨ho2, hb2⟩ := own_set ho hb k true
      have hck := ho.cellAt k (by omega)
      have hfk := ho.frozenAt k
      have HT2 : Hid (∀ j, j < k + 1 → j < 12 → (ys.set k true).getD j false = true) := fun j h1 h2 => by
        rcases (by omega : j < k ∨ j = k) with h | rfl
        · have := HT.out j h h2
          simp only [List.getD_eq_getElem?_getD] at this ⊢
          rw [List.getElem?_set_ne (by omega)]; exact this
        · simp [List.getD, hlen, h2]
      have HO := Lib.hid ho2
      clear ho ho2
      go_wp2
      go_roundw
      case rel => exact ⟨k + 1, _, by omega, by go_num, HO.out, HT2, hb2⟩
      case measure => simp [intOf]; omega
    · have hT : Truths wr (some ⟨g, 0, none⟩) 12 ys := Truths.of_own ho hlen
      have hall : ∀ j, j < 12 → ys.getD j false = true := fun j hj => HT.out j (by omega) hj
      have s1 : strB ys 12 = true := by
        rw [str_same (qs := trues 12) (fun i hi => by rw [hall i hi, trues_at hi])]
        exact str_12
      have s2 : strB ((ys.drop 1).take 11) 11 = false := by
        rw [str_same (qs := trues 11) (fun i hi => by
          have := hall (1 + i) (by omega)
          simp only [List.getD_eq_getElem?_getD] at this ⊢
          rw [List.getElem?_take_of_lt hi, List.getElem?_drop, this, ← List.getD_eq_getElem?_getD, trues_at hi])]
        exact str_11
      have H1 := Lib.hid (fun x (h : At wr x) => l20_stream (c := 12) wr x hT (by omega) h)
      have H2 := Lib.hid (fun x (h : At wr x) => l20_stream (c := 11) wr x (hT.cut (k := 1) (m := 11) (by omega)) (by omega) h)
      have H3 := Lib.hid (fun x (h : At wr x) => l20_stream (c := 0) wr x (Truths.no (w := wr) (A := none)) (by omega) h)
      rw [s1] at H1
      rw [s2] at H2
      have s3 : strB [] 0 = false := rfl
      rw [s3] at H3
      clear s1 s2 s3 hall HT ho hT hlen
      have hA := At.refl wr
      have hb0 := Lib.hid hb
      clear hb
      go_wp2_with (first
        | (go_at_call 7; refine (bm_step _ _ _).mono ?_; rintro e w' ⟨rfl, rfl⟩)
        | (go_at_call 9; ((with_reducible refine (H1.out _ (by assumption)).mono ?_); rintro e w' ⟨rfl, hA1⟩))
        | (go_at_call 9; ((with_reducible refine (H2.out _ (by assumption)).mono ?_); rintro e w' ⟨rfl, hA2⟩))
        | (go_at_call 9; ((with_reducible refine (H3.out _ (by assumption)).mono ?_); rintro e w' ⟨rfl, hA3⟩)))
      all_goals go_ret
      all_goals exact ⟨rfl, by rw [HG.out]; exact Below.trans hb0.out (Below.mono hA3 (by have h1 := hb0.out.size; have h2 := HG.out; omega))⟩
end Go.Proofs.Ytgfioiclhoiobaa
