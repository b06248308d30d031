/- The hazards as 64 bits: what is raised, acknowledged, and its level. -/
import Derived.Test.YtmocppghmdeahaaGreatLatch
import Derived.IntWalk
namespace Go.Proofs.YtmocppghmdeahaaGreat
set_option maxRecDepth 100000
open Go.RowKit
set_option linter.unusedVariables false
set_option linter.unusedSimpArgs false

abbrev bv (n : Int) : BitVec 64 := BitVec.ofInt 64 n
theorem wrap_bv (x : BitVec 64) : IntKind.i64.wrap (x.toNat : Int) = x.toInt := by
  have h := x.isLt
  rw [BitVec.toInt_eq_toNat_cond]
  have e : (x.toNat : Int) % 2 ^ 64 = x.toNat := Int.emod_eq_of_lt (by omega) (by omega)
  have k : ∀ m : Int, m = x.toNat → (if IntKind.i64.signed && decide (m ≥ (2 ^ (IntKind.i64.bits - 1) : Int)) then m - (2 ^ IntKind.i64.bits : Int) else m) = if 2 * x.toNat < 2 ^ 64 then (x.toNat : Int) else (x.toNat : Int) - ((2 ^ 64 : Nat) : Int) := by
    intro m hm
    subst hm
    by_cases g : 2 * x.toNat < 2 ^ 64
    · have : ¬ ((x.toNat : Int) ≥ (2 ^ (IntKind.i64.bits - 1) : Int)) := by show ¬ ((2 : Int) ^ 63 ≤ (x.toNat : Int)); omega
      rw [if_pos g, decide_eq_false this]
      rfl
    · have : (x.toNat : Int) ≥ (2 ^ (IntKind.i64.bits - 1) : Int) := by show (2 : Int) ^ 63 ≤ (x.toNat : Int); omega
      rw [if_neg g, decide_eq_true this]
      rfl
  exact k _ e
theorem and_bv (a b : Int) : bits .and .i64 a b = (bv a &&& bv b).toInt := wrap_bv _
theorem or_bv (a b : Int) : bits .or .i64 a b = (bv a ||| bv b).toInt := wrap_bv _
theorem bv_int (x : BitVec 64) : bv x.toInt = x := BitVec.ofInt_toInt
theorem ra_bv (a b : Int) : raV a b = ((bv a ||| bv b) &&& bv 4095).toInt := by unfold raV; rw [and_bv, or_bv, bv_int]
theorem ac_bv (a b : Int) : acV a b = ((bv a &&& bv b) &&& bv 4095).toInt := by unfold acV; rw [and_bv, and_bv, bv_int]
theorem int_no (x : BitVec 64) : x.toInt = 0 ↔ x = 0#64 := ⟨fun h => by rw [← bv_int x, h]; rfl, fun h => by subst h; rfl⟩
theorem and_no (a b : Int) : bits .and .i64 a b = 0 ↔ bv a &&& bv b = 0#64 := by rw [and_bv, int_no]
theorem ur_all : bv 4095 &&& bv 3843 = bv 3843 := by decide
theorem bv_ones : bv (-1) = BitVec.allOnes 64 := by decide
theorem lv_mono (a b : Int) (h : (bv a &&& bv 4095) &&& bv b = bv a &&& bv 4095) : lvV a ≤ lvV b := by
  unfold lvV
  rw [ite_congr (propext (and_no a 3843)) (fun _ => rfl) (fun _ => rfl), ite_congr (propext (and_no b 3843)) (fun _ => rfl) (fun _ => rfl)]
  have h1 : bv b &&& bv 3843 = 0#64 → bv a &&& bv 3843 = 0#64 := fun g => by
    rw [← ur_all, ← BitVec.and_assoc, ← h, BitVec.and_assoc, g, BitVec.and_zero]
  have h2 : bits .and .i64 b 4095 = 0 → bits .and .i64 a 4095 = 0 := fun g => by
    rw [and_no] at g ⊢
    have : bv a &&& bv 4095 = (bv a &&& bv 4095) &&& (bv b &&& bv 4095) := by
      rw [← BitVec.and_assoc, h, BitVec.and_assoc, BitVec.and_self]
    rw [this, g, BitVec.and_zero]
  by_cases c1 : bv b &&& bv 3843 = 0#64
  · rw [if_pos c1, if_pos (h1 c1)]
    by_cases c2 : bits .and .i64 b 4095 = 0
    · rw [if_pos c2, if_pos (h2 c2)]; exact Int.le_refl _
    · rw [if_neg c2]; split <;> omega
  · rw [if_neg c1]; repeat' split
    all_goals omega
theorem ra_left (a b : Int) : lvV a ≤ lvV (raV a b) := lv_mono _ _ (by
  rw [ra_bv, bv_int]; generalize bv a = x; generalize bv b = y; generalize bv 4095 = m
  apply BitVec.eq_of_getLsbD_eq; intro i hi
  simp only [BitVec.getLsbD_and, BitVec.getLsbD_or]; cases x.getLsbD i <;> cases y.getLsbD i <;> cases m.getLsbD i <;> rfl)
theorem ra_right (a b : Int) : lvV b ≤ lvV (raV a b) := lv_mono _ _ (by
  rw [ra_bv, bv_int]; generalize bv a = x; generalize bv b = y; generalize bv 4095 = m
  apply BitVec.eq_of_getLsbD_eq; intro i hi
  simp only [BitVec.getLsbD_and, BitVec.getLsbD_or]; cases x.getLsbD i <;> cases y.getLsbD i <;> cases m.getLsbD i <;> rfl)
theorem ac_left (a b : Int) : lvV (acV a b) ≤ lvV a := lv_mono _ _ (by
  rw [ac_bv, bv_int]; generalize bv a = x; generalize bv b = y; generalize bv 4095 = m
  apply BitVec.eq_of_getLsbD_eq; intro i hi
  simp only [BitVec.getLsbD_and, BitVec.getLsbD_or]; cases x.getLsbD i <;> cases y.getLsbD i <;> cases m.getLsbD i <;> rfl)
theorem ra_again (a b c : Int) : raV (acV (raV a b) c) (raV a b) = raV a b := by
  rw [ra_bv (acV _ _), ac_bv, ra_bv a b]
  simp only [bv_int]
  congr 1
  generalize bv a = x; generalize bv b = y; generalize bv c = z; generalize bv 4095 = m
  apply BitVec.eq_of_getLsbD_eq; intro i hi
  simp only [BitVec.getLsbD_and, BitVec.getLsbD_or]; cases x.getLsbD i <;> cases y.getLsbD i <;> cases z.getLsbD i <;> cases m.getLsbD i <;> rfl
theorem ac_all (a b : Int) : acV (raV a b) (-1) = raV a b := by
  rw [ac_bv, ra_bv a b, bv_int, bv_ones, BitVec.and_allOnes]
  congr 1
  rw [BitVec.and_assoc, BitVec.and_self]
theorem ac_none (a : Int) : acV a 0 = 0 := by
  rw [ac_bv, int_no]
  show (bv a &&& 0#64) &&& bv 4095 = 0#64
  rw [BitVec.and_zero, BitVec.zero_and]
end Go.Proofs.YtmocppghmdeahaaGreat
