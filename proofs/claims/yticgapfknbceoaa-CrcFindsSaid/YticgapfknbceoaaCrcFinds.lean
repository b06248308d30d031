/- CrcFinds holds of every text, place and two bytes: what was changed is found. No condition. -/
import Derived.Test.YticgapfknbceoaaTurned
import Derived.Test.YticgapfknbceoaaArr
namespace Go.Proofs.Yticgapfknbceoaa.crcFinds
open Go.ChangeShapes Go.WideShapes Go.ChangeAt Go.RowKit
set_option linter.unusedVariables false

theorem more_off (q : List UInt8) : ∀ (u v : Nat), u < 65536 → v < 65536 → moreN (u ^^^ v) q = moreN u q ^^^ moreN v (List.replicate q.length 0) := by
  induction q with
  | nil => intro u v _ _; rfl
  | cons a q ih =>
    intro u v hu hv
    have h := thru_lin u v a.toNat 0 hu hv
    rw [Nat.xor_zero] at h
    rw [List.length_cons, List.replicate_succ, more_cons, more_cons, more_cons, h]
    exact ih _ _ (thru_lt _ hu) (thru_lt _ hv)
theorem turn_sum (l : List UInt8) (k : Nat) (x : UInt8) (c : Nat) (hc : c < 65536) (hk : k < l.length) :
    moreN c (l.modify k (· ^^^ x)) = moreN c l ^^^ moreN (thru 0 x.toNat) (List.replicate (l.length - (k + 1)) 0) := by
  have hl : l = l.take k ++ l[k] :: l.drop (k + 1) := by rw [← List.drop_eq_getElem_cons hk, List.take_append_drop]
  rw [List.modify_eq_take_cons_drop hk]
  conv => rhs; arg 1; rw [hl]
  rw [more_append, more_append, more_cons, more_cons, UInt8.toNat_xor]
  have hu := more_lt (l.take k) c hc
  generalize moreN c (l.take k) = u at *
  have h := thru_lin u 0 l[k].toNat x.toNat hu (by decide)
  rw [Nat.xor_zero] at h
  rw [h, more_off _ _ _ (thru_lt _ hu) (thru_lt _ (by decide)), List.length_drop]
theorem seal_zero (s : ByteArray) : moreN 65535 (sealB s).data.toList = 0 := by
  unfold sealB
  rw [ByteArray.data_append, Array.toList_append, more_append]
  have e : (tailB (sumB s)).data.toList = [UInt8.ofNat (sumB s / 256), UInt8.ofNat (sumB s)] := rfl
  have hc := sumB_lt s
  rw [e, more_cons, more_cons, more_nil]
  change thru (thru (sumB s) (UInt8.ofNat (sumB s / 256)).toNat) (UInt8.ofNat (sumB s)).toNat = 0
  rw [UInt8.toNat_ofNat', UInt8.toNat_ofNat', Nat.mod_eq_of_lt (show sumB s / 256 < 2 ^ 8 by omega)]
  exact sealed_zero _ hc
theorem open_zero (t : ByteArray) (h : openB t = true) : moreN 65535 t.data.toList = 0 := by
  unfold openB at h
  rw [Bool.and_eq_true] at h
  have e := eq_of_beq h.2
  rw [ByteArray.toList_eq, ByteArray.toList_eq] at e
  rw [← e]
  exact seal_zero _
theorem xor_none {a : Nat} (h : 0 ^^^ a = 0) : a = 0 := by rwa [Nat.zero_xor] at h
theorem one_shut (s : ByteArray) (k : Nat) (x : UInt8) (hk : k < (sealB s).size) (hx : x.toNat ≠ 0) : openB (turnB (sealB s) k x) = false := by
  rw [Bool.eq_false_iff]
  intro h
  have h0 := open_zero _ h
  rw [turn_list, turn_sum _ _ _ _ (by decide) (by rw [Array.length_toList]; exact hk), seal_zero] at h0
  exact one_found _ (UInt8.toNat_lt x) hx (more_zero _ _ (thru_lt _ (by decide)) (xor_none h0))
theorem two_shut (s : ByteArray) (k : Nat) (x y : UInt8) (hk : k + 1 < (sealB s).size) (hx : x.toNat ≠ 0) : openB (turnB (turnB (sealB s) k x) (k + 1) y) = false := by
  rw [Bool.eq_false_iff]
  intro h
  have h0 := open_zero _ h
  have hlen : (sealB s).data.toList.length = (sealB s).size := Array.length_toList
  rw [turn_list, turn_list, turn_sum _ _ _ _ (by decide) (by rw [List.length_modify, hlen]; exact hk), turn_sum _ _ _ _ (by decide) (by rw [hlen]; omega), seal_zero, List.length_modify, hlen, Nat.zero_xor] at h0
  obtain ⟨m, hm⟩ : ∃ m, (sealB s).size = k + 2 + m := ⟨(sealB s).size - (k + 2), by omega⟩
  rw [hm, show k + 2 + m - (k + 1) = m + 1 by omega, show k + 2 + m - (k + 1 + 1) = m by omega, List.replicate_succ, more_cons] at h0
  have hu : thru 0 x.toNat < 65536 := thru_lt _ (by decide)
  have hv : thru 0 y.toNat < 65536 := thru_lt _ (by decide)
  have h1 := more_off (List.replicate m 0) (thru (thru 0 x.toNat) 0) (thru 0 y.toNat) (thru_lt _ hu) hv
  rw [List.length_replicate] at h1
  rw [show (0 : UInt8).toNat = 0 from rfl, ← h1] at h0
  have h2 := thru_lin (thru 0 x.toNat) 0 0 y.toNat hu (by decide)
  rw [Nat.xor_zero, Nat.zero_xor] at h2
  rw [← h2] at h0
  exact two_found _ _ (UInt8.toNat_lt x) (UInt8.toNat_lt y) hx (more_zero _ _ (thru_lt _ hu) h0)

theorem byte_of (x : Int) (h : (Lit.int .u8 x).wf = true) : ∃ b : UInt8, x = (b.toNat : Int) := by
  have c0 : 0 ≤ x ∧ x ≤ 255 := by simp only [Lit.wf, IntKind.min, IntKind.max, IntKind.signed, IntKind.bits, Bool.and_eq_true] at h; simpa using h
  refine ⟨UInt8.ofNat x.toNat, ?_⟩
  rw [UInt8.toNat_ofNat']
  omega

set_option maxRecDepth 100000 in
set_option maxHeartbeats 2000000 in
theorem walk (w : World) (s : ByteArray) (hs : s.size ≤ maxLen) (a : Int) (wa : (Lit.int .i64 a).wf = true) (c : Int) (wc : (Lit.int .u8 c).wf = true) (d : Int) (wd : (Lit.int .u8 d).wf = true) :
    Calls Try.prog 5 #[.string s, .int .i64 a, .agg #[.int .u8 c, .int .u8 d]] w fun e w' => e = .returned (.bool true) ∧ Below w.heap.size w w' := by
  obtain ⟨x, rfl⟩ := byte_of c wc
  obtain ⟨y, rfl⟩ := byte_of d wd
  have a0 : -9223372036854775808 ≤ a ∧ a ≤ 9223372036854775807 := by simp only [Lit.wf, IntKind.min, IntKind.max, IntKind.signed, IntKind.bits, Bool.and_eq_true] at wa; simpa using wa
  clear wa wc wd hs
  obtain ⟨w1, hw1⟩ : ∃ w1, w.alloc (.cells #[.int .u8 x.toNat, .int .u8 y.toNat] 31) = w1 := ⟨_, rfl⟩
  have A1 : At w w1 := hw1 ▸ (Below.refl _ _).alloc (Nat.le_refl _) _
  by_cases hl : 1000 < s.size
  · go_enter Try.func5, Try.ntmps5
    go_wp2_with (first
    | (go_at_call 7; refine (law6_awake _ _ (by assumption)).mono ?_; rintro e w' ⟨rfl, hb⟩))
    all_goals go_ret
    all_goals exact ⟨rfl, by assumption⟩
  by_cases h1 : a < 0
  · go_enter Try.func5, Try.ntmps5
    go_wp2_with (first
    | (go_at_call 7; refine (law6_awake _ _ (by assumption)).mono ?_; rintro e w' ⟨rfl, hb⟩))
    all_goals go_ret
    all_goals exact ⟨rfl, by assumption⟩
  by_cases h2 : (s.size : Int) + 2 ≤ a
  · go_enter Try.func5, Try.ntmps5
    go_wp2_with (first
    | (go_at_call 7; refine (law6_awake _ _ (by assumption)).mono ?_; rintro e w' ⟨rfl, hb⟩))
    all_goals go_ret
    all_goals exact ⟨rfl, by assumption⟩
  have C0 : w1.cell? ⟨w.heap.size, 0, none⟩ = some (.int .u8 x.toNat) := by rw [← hw1]; rw [World.cell?_alloc_at _ _ _ _ rfl]; rfl
  have C1 : w1.cell? ⟨w.heap.size, 1, none⟩ = some (.int .u8 y.toNat) := by rw [← hw1]; rw [World.cell?_alloc_at _ _ _ _ rfl]; rfl
  by_cases h3 : x.toNat = 0
  · have f3 : ((x.toNat : Int) == 0) = true := by simp [h3]
    clear h3
    go_enter Try.func5, Try.ntmps5
    go_wp2_with (first
    | (go_at_call 7; refine (law6_awake _ _ (by assumption)).mono ?_; rintro e w' ⟨rfl, hb⟩))
    all_goals go_ret
    all_goals exact ⟨rfl, by assumption⟩
  have f3 : ((x.toNat : Int) == 0) = false := by simp; omega
  have hlt1 : w.heap.size < w1.heap.size := by rw [← hw1]; simp
  obtain ⟨k, rfl⟩ := Int.eq_ofNat_of_zero_le (show 0 ≤ a by omega)
  have hsz := seal_size s
  have hk : k < (sealB s).size := by omega
  have k1 := fun w' : World => law6_turned (sealB s) k x w' hk (by omega)
  have o1 := one_shut s k x hk h3
  have T1 := turn_size (sealB s) k x
  have KK0 := Lib.hid C0
  have KK1 := Lib.hid C1
  have AA := Lib.hid A1
  have B1 : At w1 w1 := At.refl w1
  by_cases h4 : k + 1 < s.size
  · have k2 := fun w' : World => law6_turned (turnB (sealB s) k x) (k + 1) y w' (by omega) (by omega)
    have o2 := two_shut s k x y (by omega) h3
    have T2 := turn_size (turnB (sealB s) k x) (k + 1) y
    rw [show ((k + 1 : Nat) : Int) = (k : Int) + 1 by omega] at k2
    generalize turnB (turnB (sealB s) k x) (k + 1) y = t2 at *
    generalize turnB (sealB s) k x = t1 at *
    have K1 := Lib.hid k1
    have K2 := Lib.hid k2
    have hS := fun (w' : World) (h : At w1 w') => l6_seal w1 s w' (by omega) h
    have KS := Lib.hid hS
    generalize sealB s = S at *
    clear k1 k2 hS h3 A1
    go_enter Try.func5, Try.ntmps5
    go_wp2_with (first
      | (go_at_call 14; refine (KS.out _ B1).mono ?_; rintro e w2 ⟨rfl, B2⟩; have c0 := (Below.cell B2 hlt1).trans KK0.out)
      | (go_at_call 16; ((with_reducible refine (K1.out _).mono ?_)); rintro e w3 ⟨rfl, b3⟩; have B3 := B2.below b3)
      | (go_at_call 8; ((with_reducible refine (l6_open w1 t1 _ (by omega) B3).mono ?_)); rintro e w4 ⟨rfl, B4⟩; have c1 := (Below.cell B4 hlt1).trans KK1.out)
      | (go_at_call 16; ((with_reducible refine (K2.out _).mono ?_)); rintro e w5 ⟨rfl, b5⟩; have B5 := B4.below b5)
      | (go_at_call 8; ((with_reducible refine (l6_open w1 t2 _ (by omega) B5).mono ?_)); rintro e w6 ⟨rfl, B6⟩)
      | (go_at_call 7; refine (law6_awake w1 _ B6).mono ?_; rintro e w7 ⟨rfl, B7⟩))
    all_goals go_ret
    all_goals exact ⟨rfl, AA.out.below B7⟩
  · generalize turnB (sealB s) k x = t1 at *
    have K1 := Lib.hid k1
    have hS := fun (w' : World) (h : At w1 w') => l6_seal w1 s w' (by omega) h
    have KS := Lib.hid hS
    generalize sealB s = S at *
    clear k1 hS h3 A1
    go_enter Try.func5, Try.ntmps5
    go_wp2_with (first
      | (go_at_call 14; refine (KS.out _ B1).mono ?_; rintro e w2 ⟨rfl, B2⟩; have c0 := (Below.cell B2 hlt1).trans KK0.out)
      | (go_at_call 16; ((with_reducible refine (K1.out _).mono ?_)); rintro e w3 ⟨rfl, b3⟩; have B3 := B2.below b3)
      | (go_at_call 8; ((with_reducible refine (l6_open w1 t1 _ (by omega) B3).mono ?_)); rintro e w4 ⟨rfl, B4⟩)
      | (go_at_call 7; refine (law6_awake w1 _ B4).mono ?_; rintro e w7 ⟨rfl, B7⟩))
    all_goals go_ret
    all_goals exact ⟨rfl, AA.out.below B7⟩

theorem lifted (os : Os) (started : os.Started) (H : Type) (enc : TypeId × Value → H) :
    ReturnsInHanded {} Try.checked os 5 .any (Rows.crcFindsSpec.pre6 enc Try.prog Try.f5 Rows.crcFindsRow.domain false) (Rows.crcFindsSpec.post enc Try.prog Try.f5 false true false false) := by
  refine law_lift started (by kernel_rfl) Try.func5 rfl rfl ?_ (by kernel_rfl)
    (ChangeSpec.witness6 (enc := enc) (C := Try.checked) false ⟨#[], #[.string ⟨#[]⟩, .int .i64 0, .agg #[.int .u8 0, .int .u8 0]], []⟩ 8 (by kernel_rfl) (by kernel_rfl) (by kernel_rfl) (by kernel_rfl)) ?_
  · intro ds hl
    match ds, hl with
    | [_, _, _], _ => exact ⟨rfl, rfl, rfl⟩
  · intro W base args ds p hval hA hlt hwt
    rw [Try.params5] at hA hval hwt
    obtain ⟨v0, vs0, d0, ds0, p0, q0, hargs, rfl, rfl, h0, r0⟩ := trodAll_cons hA
    obtain ⟨v1, vs1, d1, ds1, p1, q1, rfl, rfl, rfl, h1, r1⟩ := trodAll_cons r0
    obtain ⟨v2, vs2, d2, ds2, p2, q2, rfl, rfl, rfl, h2, r2⟩ := trodAll_cons r1
    obtain ⟨rfl, rfl, rfl⟩ := trodAll_nil r2
    obtain rfl : args = #[v0, v1, v2] := by cases args; simp_all
    obtain ⟨a0, rfl, rfl, rfl, w0⟩ := Go.ChangeMaps.open_string Try.underlying9 (hval 0 9 v0 rfl rfl) h0
    obtain ⟨a1, rfl, rfl, rfl, w1⟩ := open_int Try.underlying3 (hval 1 3 v1 rfl rfl) h1
    obtain ⟨xs2, rfl, l2, w2⟩ := open_int_cells Try.underlying31 Try.underlying5 (by kernel_rfl) (by kernel_rfl) (hval 2 31 v2 rfl rfl) h2
    match xs2, l2, w2 with
    | [x2_0, x2_1], _, w2 =>
    exact walk W a0 w0 a1 w1 x2_0 (w2 _ (by simp)) x2_1 (w2 _ (by simp))

theorem over : Rows.crcFindsRow.holds Try.pinned (OpenSpec.ofChange Rows.crcFindsSpec) :=
  OpenClaim.holds_of_wide 5 Try.f5 rfl rfl rfl rfl rfl rfl rfl ⟨rfl, rfl, rfl, rfl, rfl⟩ rfl rfl rfl rfl rfl (by kernel_rfl) Try.func5 (by kernel_rfl)
    (of_decide_eq_true (by kernel_rfl)) (by unfold Func.isWrapper; first | (rw [if_pos (by decide +kernel)]; kernel_rfl) | (rw [if_neg (by decide +kernel)]; exact ⟨rfl, rfl⟩))
    (fun os started H enc _ => lifted os started H enc)

theorem proved : Rows.CrcFindsSaid := over
#print axioms proved
end Go.Proofs.Yticgapfknbceoaa.crcFinds
