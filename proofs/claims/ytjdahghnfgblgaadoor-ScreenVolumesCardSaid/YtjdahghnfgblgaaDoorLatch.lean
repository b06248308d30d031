/- Contracts of package latch: the hazards of a number as its twelve lowest bits. -/
import Derived.Test.YtjdahghnfgblgaaDoorRing
import Derived.Test.YtjdahghnfgblgaaDoorGrown
import Derived.Test.YtjdahghnfgblgaaDoorCalm
import Derived.Deep.OwnRows
namespace Go.Proofs.YtjdahghnfgblgaaDoor
set_option maxRecDepth 100000
open Go.RowKit
set_option linter.unusedVariables false
set_option linter.unusedSimpArgs false

/-- Is there the hazard H in n? -/
def hB (n H : Int) : Bool := bits .and .i64 n H != 0
def whK (n : Int) : Nat → List Int
  | 0 => []
  | k + 1 => if hB n (2 ^ k) = true then whK n k ++ [2 ^ k] else whK n k
theorem wh_le (n : Int) (k : Nat) : (whK n k).length ≤ k := by
  induction k with
  | zero => exact Nat.le_refl _
  | succ k ih =>
    unfold whK
    split
    · rw [List.length_append, List.length_singleton]; omega
    · omega
theorem pw_bd (k : Nat) (h : k < 12) : 1 ≤ (2 : Int) ^ k ∧ (2 : Int) ^ k ≤ 2048 := by
  have : ∀ k : Fin 12, 1 ≤ (2 : Int) ^ k.1 ∧ (2 : Int) ^ k.1 ≤ 2048 := by decide
  exact this ⟨k, h⟩
def raV (a b : Int) : Int := bits .and .i64 (bits .or .i64 a b) 4095
def acV (a b : Int) : Int := bits .and .i64 (bits .and .i64 a b) 4095
def lvV (n : Int) : Int := if bits .and .i64 n 3843 = 0 then if bits .and .i64 n 4095 = 0 then 0 else 2 else 3

theorem lt_which (n : Int) (w : World) : Calls Tryd.prog 30 #[.int .i64 n] w (OwnInts w (whK n 12)) := by
  have h0 := Grown.empty w
  have H0 := Lib.hid h0
  clear h0
  go_enter Tryd.func30, Tryd.ntmps30
  go_wp2
  go_loopw [3, 4] (fun v i wr => ∃ (k : Nat) (H : Int), k ≤ 12 ∧ (2 : Int) ^ k = H ∧ i = .int .i64 H ∧ Grown w (whK n k) v wr) (fun _ i _ => 5000 - (intOf i).toNat)
  case atStart => exact ⟨0, 1, by omega, rfl, rfl, H0.out⟩
  case round =>
    obtain ⟨k, H, hk, hH, rfl, hso⟩ := hrel
    have hll := wh_le n k
    by_cases hlt : k < 12
    · have ⟨p1, p2⟩ := pw_bd k hlt
      rw [hH] at p1 p2
      have e1 : whK n (k + 1) = if hB n (2 ^ k) = true then whK n k ++ [2 ^ k] else whK n k := rfl
      have e2 : (2 : Int) ^ (k + 1) = H * 2 := by rw [Int.pow_succ, hH]
      rw [hH] at e1
      have E1 := Lib.hid e1
      have E2 := Lib.hid e2
      clear e1 e2 hH
      generalize whK n k = ys at *
      have hsz := hso.2.2.size
      obtain ⟨B, d, rfl, hd, hi⟩ := hso.form
      have HS := Lib.hid hso
      have HO := Lib.hid hso.2.1
      clear hso hi hd
      obtain ⟨I, hI⟩ : ∃ I, hB n H = I := ⟨_, rfl⟩
      rw [hI] at E1
      unfold hB at hI
      cases I
      · go_wp2
        go_roundw
        case rel => exact ⟨k + 1, H * 2, by omega, E2.out, by go_num, by rw [E1.out]; simpa using HS.out⟩
        case measure => simp [intOf]; omega
      · go_wp2_with (at_builtin; refine app_int rfl _ _ rfl H rfl rfl HO.out hsz (by omega) ?_)
        intro v' w1 hown' hg
        have hnext := Lib.hid (HS.out.next (by simpa using hown') hg)
        clear hown' hg HO HS
        go_wp2
        go_roundw
        case rel => exact ⟨k + 1, H * 2, by omega, E2.out, by go_num, by rw [E1.out]; simpa using hnext.out⟩
        case measure => simp [intOf]; omega
    · obtain rfl : k = 12 := by omega
      obtain rfl : 4096 = H := by rw [← hH]; rfl
      clear hH
      generalize whK n 12 = ys at *
      obtain ⟨B, d, rfl, hd, hi⟩ := hso.form
      have HS := Lib.hid hso
      clear hso hi
      go_wp2
      go_ret
      exact ⟨_, rfl, own_base (by simpa using HS.out.2.1) (by simp), HS.out.2.2⟩
end Go.Proofs.YtjdahghnfgblgaaDoor
