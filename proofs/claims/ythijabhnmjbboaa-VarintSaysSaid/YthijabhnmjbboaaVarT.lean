/- Contracts of package varint: what is taken. -/
import Derived.Test.YthijabhnmjbboaaVar
import Derived.Deep.CutBlock
namespace Go.Proofs.Ythijabhnmjbboaa
open Go.RowKit
set_option linter.unusedVariables false
set_option linter.unusedSimpArgs false

/-- What is taken of so many bytes. -/
def okB (N j : Nat) : Bool := decide (N ≤ 18014398509481984 ∧ (putL N).length = j)
theorem putS_size {N : Nat} (h : N ≤ 18014398509481984) : (putS (N : Int)).size = (putL N).length := by
  unfold putS
  rw [show inV (N : Int) = (N : Int) by unfold inV; omega, Int.toNat_natCast]
  rfl
set_option maxRecDepth 100000 in
theorem vr_taken (N A j : Nat) (hA : (A : Int) + j ≤ 9223372036854775807) (w : World) : Calls Try.prog 42 #[.int .i64 N, .int .i64 A, .int .i64 j] w fun e w' => e = .returned (.tuple #[.int .i64 (if okB N j = true then (N : Int) else 0), .int .i64 (if okB N j = true then (A : Int) + j else 0), .bool (okB N j)]) ∧ Below w.heap.size w w' := by
  have B : Below w.heap.size w w := Below.refl _ _
  by_cases h : N ≤ 18014398509481984
  · have HP := fun w => vr_put (N : Int) w
    have hs := putS_size h
    have hl := (putN_len 7 N)
    have hpl : (putL N).length ≤ 8 := hl.2
    have t1 : decide ((18014398509481984 : Int) < (N : Int)) = false := decide_eq_false (by omega)
    generalize putS (N : Int) = P at *
    have HP := Lib.hid HP
    by_cases h2 : (putL N).length = j
    · rw [show okB N j = true from decide_eq_true ⟨h, h2⟩, if_pos rfl, if_pos rfl]
      have t2 : ((P.size : Int) != (j : Int)) = false := by rw [hs, h2]; simp
      have i1 : IntKind.i64.wrap ((A : Int) + j) = (A : Int) + j := IntWalk.i64_in _ (by omega)
      clear h h2 hs hl hpl
      go_enter Try.func42, Try.ntmps42
      go_wp2_with (fail)
      refine (HP.out _).mono ?_
      rintro e w1 ⟨rfl, hb⟩
      go_wp2
      all_goals go_ret3
      all_goals exact ⟨rfl, hb⟩
    · rw [show okB N j = false from decide_eq_false (fun h => h2 h.2), if_neg (by simp), if_neg (by simp)]
      have t2 : ((P.size : Int) != (j : Int)) = true := by rw [hs]; simp; omega
      clear h h2 hs hl hpl
      go_enter Try.func42, Try.ntmps42
      go_wp2_with (fail)
      refine (HP.out _).mono ?_
      rintro e w1 ⟨rfl, hb⟩
      go_wp2
      all_goals go_ret3
      all_goals exact ⟨rfl, hb⟩
  · rw [show okB N j = false from decide_eq_false (fun h2 => h h2.1), if_neg (by simp), if_neg (by simp)]
    have t1 : decide ((18014398509481984 : Int) < (N : Int)) = true := decide_eq_true (by omega)
    clear h
    go_enter Try.func42, Try.ntmps42
    go_wp2
    all_goals go_ret3
    all_goals exact ⟨rfl, B⟩

theorem or_shift (x d k : Nat) (h : x < 2 ^ (7 * k)) (hd : d < 128) (hk : k ≤ 7) : bits .or .i64 (x : Int) ((d * 2 ^ (7 * k) : Nat) : Int) = ((x + 2 ^ (7 * k) * d : Nat) : Int) := by
  have hp : 2 ^ (7 * k) ≤ 2 ^ 49 := Nat.pow_le_pow_right (by omega) (by omega)
  have e : 2 ^ 49 = 562949953421312 := by decide
  rw [e] at hp
  have hm : d * 2 ^ (7 * k) ≤ 127 * 2 ^ (7 * k) := Nat.mul_le_mul_right _ (by omega)
  have hx : x ||| d * 2 ^ (7 * k) = x + 2 ^ (7 * k) * d := by
    rw [Nat.or_comm, Nat.mul_comm, ← Nat.two_pow_add_eq_or_of_lt h d, Nat.add_comm]
  have hc : 2 ^ (7 * k) * d = d * 2 ^ (7 * k) := Nat.mul_comm _ _
  show IntKind.i64.wrap ((BitVec.ofInt 64 ((x : Nat) : Int) ||| BitVec.ofInt 64 ((d * 2 ^ (7 * k) : Nat) : Int)).toNat : Int) = _
  rw [BitVec.toNat_or, BitVec.ofInt_natCast, BitVec.ofInt_natCast, BitVec.toNat_ofNat, BitVec.toNat_ofNat, Nat.mod_eq_of_lt (by omega), Nat.mod_eq_of_lt (show d * 2 ^ (7 * k) < 2 ^ 64 by omega), hx, IntWalk.i64_in _ (by omega)]

theorem or_shift2 (x d k : Nat) (h : x < 2 ^ (7 * k)) (hk : k ≤ 7) : bits .or .i64 (x : Int) (wrap64 ((d : Int) % 128 * 2 ^ (7 * k))) = ((x + 128 ^ k * (d % 128) : Nat) : Int) := by
  have hp : 2 ^ (7 * k) ≤ 2 ^ 49 := Nat.pow_le_pow_right (by omega) (by omega)
  have e49 : 2 ^ 49 = 562949953421312 := by decide
  rw [e49] at hp
  have hd : d % 128 < 128 := Nat.mod_lt _ (by omega)
  have hm : d % 128 * 2 ^ (7 * k) ≤ 127 * 2 ^ (7 * k) := Nat.mul_le_mul_right _ (by omega)
  have e : ((d : Int) % 128 * 2 ^ (7 * k)) = ((d % 128 * 2 ^ (7 * k) : Nat) : Int) := by push_cast; rfl
  have e7 : (128 : Nat) ^ k = 2 ^ (7 * k) := by rw [Nat.pow_mul]
  have hw : wrap64 ((d % 128 * 2 ^ (7 * k) : Nat) : Int) = ((d % 128 * 2 ^ (7 * k) : Nat) : Int) := by
    generalize d % 128 * 2 ^ (7 * k) = q at *
    unfold wrap64
    omega
  rw [e, hw, or_shift x _ k h hd hk, e7]
theorem x_bd (x d k : Nat) (h : x < 2 ^ (7 * k)) : x + 128 ^ k * (d % 128) < 2 ^ (7 * (k + 1)) := by
  have hd : d % 128 < 128 := Nat.mod_lt _ (by omega)
  have e7 : (128 : Nat) ^ k = 2 ^ (7 * k) := by rw [Nat.pow_mul]
  have e8 : (2 : Nat) ^ (7 * (k + 1)) = 2 ^ (7 * k) * 128 := by rw [show 7 * (k + 1) = 7 * k + 7 by omega, Nat.pow_add]
  rw [e7, e8]
  generalize (2 : Nat) ^ (7 * k) = p at *
  have hm : p * (d % 128) ≤ p * 127 := Nat.mul_le_mul_left _ (by omega)
  omega
/-- What comes of a number that ends. -/
theorem tk_ends {bs all : List UInt8} {A X j : Nat} (ha : tkA all (A : Int) = tkL bs) (h : tkN 8 bs = some (X, j)) :
    tkV all A = (if okB X j = true then (X : Int) else 0) ∧ tkE all A = (if okB X j = true then (A : Int) + j else 0) ∧ tkO all A = okB X j := by
  have e : tkL bs = if okB X j = true then some (X, j) else none := by
    unfold tkL okB
    rw [h]
    simp only [Option.bind_some, decide_eq_true_eq]
  unfold tkV tkE tkO
  rw [ha, e]
  cases okB X j <;> simp
theorem tk_none {bs all : List UInt8} {A : Nat} (ha : tkA all (A : Int) = tkL bs) (h : tkN 8 bs = none) : tkV all A = 0 ∧ tkE all A = 0 ∧ tkO all A = false := by
  have e : tkL bs = none := by unfold tkL; rw [h]; rfl
  unfold tkV tkE tkO
  rw [ha, e]
  exact ⟨rfl, rfl, rfl⟩
theorem tk_cons (q : Nat) (d : UInt8) (ds : List UInt8) : tkN (q + 1) (d :: ds) = if d.toNat < 128 then some (d.toNat, 1) else (tkN q ds).map fun p => (d.toNat % 128 + 128 * p.1, p.2 + 1) := rfl
/-- Step by step. -/
theorem tk_go {k : Nat} {bs : List UInt8} {x : Nat} (hk : k < 8) (h : tkN 8 bs = (tkN (8 - k) (bs.drop k)).map fun p => (x + 128 ^ k * p.1, k + p.2)) (hl : k < bs.length) :
    ((bs.getD k 0).toNat < 128 → tkN 8 bs = some (x + 128 ^ k * ((bs.getD k 0).toNat % 128), k + 1)) ∧
    (128 ≤ (bs.getD k 0).toNat → tkN 8 bs = (tkN (8 - (k + 1)) (bs.drop (k + 1))).map fun p => (x + 128 ^ k * ((bs.getD k 0).toNat % 128) + 128 ^ (k + 1) * p.1, k + 1 + p.2)) := by
  obtain ⟨q, hq⟩ : ∃ q, 8 - k = q + 1 := ⟨7 - k, by omega⟩
  have hd : bs.drop k = bs.getD k 0 :: bs.drop (k + 1) := by
    rw [List.drop_eq_getElem_cons hl]; simp [List.getD, List.getElem?_eq_getElem hl]
  rw [show 8 - (k + 1) = q by omega]
  rw [hq, hd, tk_cons] at h
  generalize bs.getD k 0 = d at *
  constructor
  · intro h1
    rw [if_pos h1] at h
    rw [h, Nat.mod_eq_of_lt h1]; rfl
  · intro h1
    rw [if_neg (by omega)] at h
    rw [h, Option.map_map]
    congr 1
    funext p
    simp only [Function.comp, Prod.mk.injEq]
    refine ⟨?_, by omega⟩
    rw [Nat.pow_succ, Nat.mul_add, Nat.mul_assoc]
    omega
theorem tk_end {k : Nat} {bs : List UInt8} {x : Nat} (h : tkN 8 bs = (tkN (8 - k) (bs.drop k)).map fun p => (x + 128 ^ k * p.1, k + p.2)) (hk : k = 8 ∨ bs.length ≤ k) : tkN 8 bs = none := by
  rw [h]
  rcases hk with rfl | hk
  · rfl
  · rw [List.drop_eq_nil_of_le hk]
    cases 8 - k <;> rfl

set_option maxRecDepth 100000 in
set_option maxHeartbeats 1000000 in
theorem vr_take (s : ByteArray) (a : Int) (hs : s.size ≤ 1000000) (w : World) :
    Calls Try.prog 13 #[.string s, .int .i64 a] w fun e w' => e = .returned (.tuple #[.int .i64 (tkV s.data.toList a), .int .i64 (tkE s.data.toList a), .bool (tkO s.data.toList a)]) ∧ Below w.heap.size w w' := by
  have B : Below w.heap.size w w := Below.refl _ _
  have hl : s.data.toList.length = s.size := Array.length_toList
  by_cases h0 : 0 ≤ a ∧ a < s.size
  · obtain ⟨A, rfl⟩ := Int.eq_ofNat_of_zero_le h0.1
    have hA : A < s.size := by omega
    have ea : tkA s.data.toList (A : Int) = tkL (s.data.toList.drop A) := by unfold tkA; rw [if_pos (by rw [hl]; omega), Int.toNat_natCast]
    have hdl : (s.data.toList.drop A).length = s.size - A := by rw [List.length_drop, hl]
    obtain ⟨lim, hlim⟩ : ∃ lim : Nat, (lim : Int) = min 8 ((s.size : Int) - A) := ⟨(min 8 ((s.size : Int) - A)).toNat, by omega⟩
    have t1 : decide ((A : Int) < 0) = false := decide_eq_false (by omega)
    have t2 : decide ((s.size : Int) ≤ (A : Int)) = false := decide_eq_false (by omega)
    have t3 : decide (s.size ≤ A) = false := decide_eq_false (by omega)
    have hlim2 : min 8 ((s.size : Int) - A) = (lim : Int) := hlim.symm
    have hlim3 : (if (s.size : Int) - A < 8 then (s.size : Int) - A else 8) = (lim : Int) := by split <;> omega
    have i1 : IntKind.i64.wrap ((s.size : Int) - A) = (s.size : Int) - A := IntWalk.i64_in _ (by omega)
    have l8 : lim ≤ 8 := by omega
    have lA : lim ≤ s.size - A := by omega
    have lE : lim = 8 ∨ s.size - A ≤ lim := by omega
    have hgd : ∀ k, (h : A + k < s.size) → (s.data.toList.drop A).getD k 0 = s[A + k] := fun k h => by
      simp only [List.getD_eq_getElem?_getD, List.getElem?_drop]
      rw [List.getElem?_eq_getElem (by rw [hl]; exact h)]
      rfl
    have HE := Lib.hid ea
    have HG := Lib.hid hgd
    have HD := Lib.hid hdl
    obtain ⟨V, hV⟩ : ∃ V, tkV s.data.toList (A : Int) = V := ⟨_, rfl⟩
    obtain ⟨E, hE⟩ : ∃ E, tkE s.data.toList (A : Int) = E := ⟨_, rfl⟩
    obtain ⟨O, hO⟩ : ∃ O, tkO s.data.toList (A : Int) = O := ⟨_, rfl⟩
    rw [hV, hE, hO]
    have HV := Lib.hid hV
    have HEE := Lib.hid hE
    have HO := Lib.hid hO
    clear hV hE hO ea hgd hdl hlim h0 hl
    generalize hbs : s.data.toList.drop A = bs at *
    clear hbs
    go_enter Try.func13, Try.ntmps13
    go_wp2
    go_loopg [7, 23] lim (fun q n i wr => ∃ (k x : Nat), k ≤ lim ∧ q = lim - k ∧ n = .int .i64 x ∧ i = .int .i64 k ∧ x < 2 ^ (7 * k) ∧ Hid (tkN 8 bs = (tkN (8 - k) (bs.drop k)).map fun p => (x + 128 ^ k * p.1, k + p.2)) ∧ w = wr)
    case atStart => exact ⟨0, 0, Nat.zero_le _, rfl, rfl, rfl, by simp, Lib.hid (by simp), rfl⟩
    case round =>
      obtain ⟨k, x, hk, rfl, rfl, rfl, hx, ht, rfl⟩ := hrel
      by_cases hlt : k < lim
      · have hsz : A + k < s.size := by omega
        have hg := HG.out k hsz
        obtain ⟨g1, g2⟩ := tk_go (k := k) (by omega) ht.out (by rw [HD.out]; omega)
        rw [hg] at g1 g2
        have G1 := Lib.hid g1
        have G2 := Lib.hid g2
        have hb := UInt8.toNat_lt s[A + k]
        have hor := or_shift2 x s[A + k].toNat k hx (by omega)
        have hxb := x_bd x s[A + k].toNat k hx
        obtain ⟨X, hX⟩ : ∃ X, x + 128 ^ k * (s[A + k].toNat % 128) = X := ⟨_, rfl⟩
        rw [hX] at hor hxb
        have i2 : IntKind.i64.wrap ((A : Int) + k) = (A : Int) + k := IntWalk.i64_in _ (by omega)
        have i3 : IntKind.i64.wrap (7 * (k : Int)) = 7 * (k : Int) := IntWalk.i64_in _ (by omega)
        have HXX := Lib.hid hX
        clear hg g1 g2 ht hX
        by_cases hd : s[A + k].toNat < 128
        · have HT := Lib.hid (fun w => vr_taken X A (k + 1) (by omega) w)
          go_wp2_with (fail)
          refine (HT.out _).mono ?_
          rintro e w1 ⟨rfl, hb1⟩
          have h8 := G1.out hd
          rw [HXX.out] at h8
          obtain ⟨e1, e2, e3⟩ := tk_ends HE.out h8
          rw [HV.out] at e1
          rw [HEE.out] at e2
          rw [HO.out] at e3
          rw [← e1, ← e2, ← e3]
          clear e1 e2 e3 h8
          go_wp2
          go_ret3
          exact ⟨rfl, hb1⟩
        · have t5 : decide ((s[A + k].toNat : Int) < 128) = false := decide_eq_false (by omega)
          go_wp2
          go_roundg (lim - (k + 1))
          case rel => exact ⟨k + 1, X, by omega, rfl, rfl, by go_num, hxb, Lib.hid (by rw [G2.out (by omega), HXX.out]), by trivial⟩
          case measure => omega
      · obtain rfl : k = lim := by omega
        obtain ⟨e1, e2, e3⟩ := tk_none HE.out (tk_end ht.out (by rw [HD.out]; omega))
        rw [HV.out] at e1
        rw [HEE.out] at e2
        rw [HO.out] at e3
        subst e1
        subst e2
        subst e3
        clear ht
        go_wp2
        go_ret3
        exact ⟨rfl, B⟩
  · have ea : tkA s.data.toList a = none := by unfold tkA; rw [if_neg (by rw [hl]; omega)]
    rw [show tkV s.data.toList a = 0 by unfold tkV; rw [ea], show tkE s.data.toList a = 0 by unfold tkE; rw [ea], show tkO s.data.toList a = false by unfold tkO; rw [ea]; rfl]
    rcases (by omega : a < 0 ∨ (0 ≤ a ∧ (s.size : Int) ≤ a)) with h | ⟨h, h2⟩
    · have t1 := decide_eq_true h
      clear ea hl h0
      go_enter Try.func13, Try.ntmps13
      go_wp2
      all_goals go_ret3
      all_goals exact ⟨rfl, B⟩
    · have t1 : decide (a < 0) = false := decide_eq_false (by omega)
      have t2 := decide_eq_true h2
      clear ea hl h0
      go_enter Try.func13, Try.ntmps13
      go_wp2
      all_goals go_ret3
      all_goals exact ⟨rfl, B⟩
end Go.Proofs.Ythijabhnmjbboaa
