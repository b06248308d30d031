/- CodeRises holds of every two numbers and every width: the greater number is told by the greater text. No condition. -/
import Derived.Test.YtfgdbgpfmkhooaaLaw7
namespace Go.Proofs.Ytfgdbgpfmkhooaa.codeRises
open Go.ChangeShapes Go.WideShapes Go.ChangeAt Go.RowKit
set_option linter.unusedVariables false

theorem less_val : ∀ (l m : List UInt8), l.length = m.length → Op.bytesLess l m = decide (valL l < valL m)
  | [], [], _ => by simp [Op.bytesLess]
  | a :: x, b :: y, h => by
    have hxy : x.length = y.length := by simpa using h
    have ih := less_val x y hxy
    have h1 := val_lt x
    have h2 := val_lt y
    rw [hxy] at h1
    simp only [Op.bytesLess]
    rw [ih, val_cons, val_cons, hxy]
    have ha := UInt8.toNat_lt a
    have hb := UInt8.toNat_lt b
    rw [Bool.eq_iff_iff]
    simp only [Bool.or_eq_true, Bool.and_eq_true, decide_eq_true_eq, beq_iff_eq, UInt8.lt_iff_toNat_lt]
    generalize 256 ^ y.length = p at *
    rcases Nat.lt_trichotomy a.toNat b.toNat with e | e | e
    · have : (a.toNat + 1) * p ≤ b.toNat * p := Nat.mul_le_mul_right _ e
      rw [Nat.add_mul] at this
      exact ⟨fun _ => by omega, fun _ => .inl e⟩
    · have : a = b := UInt8.toNat_inj.1 e
      subst this
      exact ⟨fun h => by rcases h with h | ⟨_, h⟩ <;> omega, fun h => .inr ⟨rfl, by omega⟩⟩
    · have : (b.toNat + 1) * p ≤ a.toNat * p := Nat.mul_le_mul_right _ e
      rw [Nat.add_mul] at this
      refine ⟨fun h => ?_, fun h => by omega⟩
      rcases h with h | ⟨h, _⟩
      · omega
      · subst h; omega
  | [], _ :: _, h => by simp at h
  | _ :: _, [], h => by simp at h

theorem numS_yes {n w : Int} (h : numB n w = true) : (numS n w).data.toList = numL n.toNat w.toNat ∧ (numS n w).toList = numL n.toNat w.toNat ∧ valL (numL n.toNat w.toNat) = n.toNat ∧ (numS n w).size = w.toNat := by
  have e : (numS n w).data.toList = numL n.toNat w.toNat := by unfold numS; rw [if_pos h]
  refine ⟨e, by rw [ByteArray.toList_eq]; exact e, ?_, by rw [numS_size, if_pos h]⟩
  simp only [numB, decide_eq_true_eq] at h
  exact val_num _ _ (by omega)

theorem two_less {a b w : Int} (ha : numB a w = true) (hb : numB b w = true) : Op.bytesLess (numS a w).toList (numS b w).toList = decide (a < b) ∧ ((numS a w).toList == (numS b w).toList) = (a == b) := by
  obtain ⟨_, a2, a3, _⟩ := numS_yes ha
  obtain ⟨_, b2, b3, _⟩ := numS_yes hb
  simp only [numB, decide_eq_true_eq] at ha hb
  rw [a2, b2]
  refine ⟨?_, ?_⟩
  · rw [less_val _ _ (by rw [numL_len, numL_len]), a3, b3, Bool.eq_iff_iff]
    simp only [decide_eq_true_eq]
    omega
  · rw [Bool.eq_iff_iff]
    simp only [beq_iff_eq]
    refine ⟨fun h => ?_, fun h => by rw [h]⟩
    have := congrArg valL h
    rw [a3, b3] at this
    omega
theorem second {a b w : Int} (ha : numB a w = true) (hb : numB b w = true) : takV (numS a w ++ numS b w).data.toList w w = b ∧ takB (numS a w ++ numS b w).size w w = true := by
  obtain ⟨a1, _, _, a4⟩ := numS_yes ha
  obtain ⟨b1, _, b3, b4⟩ := numS_yes hb
  have hb2 := hb
  simp only [numB, decide_eq_true_eq] at hb2
  have hs : (numS a w ++ numS b w).size = w.toNat + w.toNat := by rw [ByteArray.size_append, a4, b4]
  have ht : takB (numS a w ++ numS b w).size w w = true := by rw [hs]; unfold takB; simp; omega
  refine ⟨?_, ht⟩
  unfold takV
  rw [show (numS a w ++ numS b w).data.toList.length = (numS a w ++ numS b w).size from Array.length_toList, ht, if_pos rfl, ByteArray.data_append, Array.toList_append, a1, b1]
  have e : ((numL a.toNat w.toNat ++ numL b.toNat w.toNat).drop w.toNat).take w.toNat = numL b.toNat w.toNat := by
    rw [List.drop_append, numL_len, Nat.sub_self, List.drop_of_length_le (by rw [numL_len]; exact Nat.le_refl _), List.nil_append, List.drop_zero, List.take_of_length_le (by rw [numL_len]; exact Nat.le_refl _)]
  rw [e, b3]
  omega

set_option maxRecDepth 100000 in
set_option maxHeartbeats 1000000 in
theorem walk (a : Int) (wa : (Lit.int .i64 a).wf = true) (b : Int) (wb : (Lit.int .i64 b).wf = true) (x : Int) (wx : (Lit.int .i64 x).wf = true) (w : World) :
    Calls Try.prog 5 #[.int .i64 a, .int .i64 b, .int .i64 x] w fun e w' => e = .returned (.bool true) ∧ Below w.heap.size w w' := by
  obtain ⟨a0, a1⟩ := wf_bd wa
  obtain ⟨b0, b1⟩ := wf_bd wb
  obtain ⟨x0, x9⟩ := wf_bd wx
  clear wa wb wx
  have hb := At.refl w
  have ha := code_num a x a0 a1
  have hc := code_num b x b0 b1
  have sa := numS_size a x
  have sb := numS_size b x
  by_cases hx : 1 ≤ x ∧ x ≤ 7
  · obtain ⟨x1, x7⟩ := hx
    rcases Bool.eq_false_or_eq_true (numB a x) with hA | hA <;> rcases Bool.eq_false_or_eq_true (numB b x) with hB | hB
    · obtain ⟨l1, l2⟩ := two_less hA hB
      obtain ⟨t1, t2⟩ := second hA hB
      rw [hA, if_pos rfl] at sa
      rw [hB, if_pos rfl] at sb
      have hT2 := fun w : World => code_take (numS a x ++ numS b x) x x (by rw [ByteArray.size_append]; omega) (by omega) w
      rw [t1, t2] at hT2
      have HA := Lib.hid ha
      have HC := Lib.hid hc
      have HT := Lib.hid hT2
      clear ha hc hT2 hA hB t1 t2
      generalize numS a x = S at *
      generalize numS b x = T at *
      have s0 : S.toList.length = S.size := by rw [ByteArray.toList_eq, Array.length_toList]; rfl
      have s1 : S.toList ≠ [] := by rintro e; rw [e] at s0; simp at s0; omega
      have s2 : S.toList.isEmpty = false := by simpa using s1
      have r0 : T.toList.length = T.size := by rw [ByteArray.toList_eq, Array.length_toList]; rfl
      have r1 : T.toList ≠ [] := by rintro e; rw [e] at r0; simp at r0; omega
      have r2 : T.toList.isEmpty = false := by simpa using r1
      have z1 : (S.size : Int) = x := by omega
      have z2 : (T.size : Int) = x := by omega
      have z3 : S.size ≤ 7 := by omega
      have z4 : T.size ≤ 7 := by omega
      clear s0 r0 sa sb
      rcases (show (decide (a < b) = true ∧ (a == b) = false) ∨ (decide (a < b) = false ∧ (a == b) = true) ∨ (decide (a < b) = false ∧ (a == b) = false) by simp; omega) with ⟨q1, q2⟩ | ⟨q1, q2⟩ | ⟨q1, q2⟩
      all_goals
        rw [q1] at l1
        rw [q2] at l2
        go_enter Try.func5, Try.ntmps5
        go_wp2_with (first
          | (go_at_call 14; ((with_reducible refine (HA.out _).mono ?_)); rintro e w' ⟨rfl, b1⟩; have hb := At.below (by assumption) b1; clear b1)
          | (go_at_call 14; ((with_reducible refine (HC.out _).mono ?_)); rintro e w' ⟨rfl, b1⟩; have hb := At.below (by assumption) b1; clear b1)
          | (go_at_call 12; refine (HT.out _).mono ?_; rintro e w' ⟨rfl, rfl⟩)
          | (go_at_call 6; refine (law7_awake w _ (by assumption)).mono ?_; rintro e w' ⟨rfl, hb⟩))
        all_goals go_ret
        all_goals exact ⟨rfl, by assumption⟩
    · have e2 : numS b x = ⟨#[]⟩ := by unfold numS; rw [hB]; rfl
      rw [hA, if_pos rfl] at sa
      rw [e2] at hc
      have HA := Lib.hid ha
      have HC := Lib.hid hc
      clear ha hc hA hB e2 sb
      generalize numS a x = S at *
      have s0 : S.toList.length = S.size := by rw [ByteArray.toList_eq, Array.length_toList]; rfl
      have s1 : S.toList ≠ [] := by rintro e; rw [e] at s0; simp at s0; omega
      have s2 : S.toList.isEmpty = false := by simpa using s1
      have z1 : (S.size : Int) = x := by omega
      clear s0 sa
      go_enter Try.func5, Try.ntmps5
      go_wp2_with (first
        | (go_at_call 14; ((with_reducible refine (HA.out _).mono ?_)); rintro e w' ⟨rfl, b1⟩; have hb := At.below (by assumption) b1; clear b1)
        | (go_at_call 14; ((with_reducible refine (HC.out _).mono ?_)); rintro e w' ⟨rfl, b1⟩; have hb := At.below (by assumption) b1; clear b1)
        | (go_at_call 6; refine (law7_awake w _ (by assumption)).mono ?_; rintro e w' ⟨rfl, hb⟩))
      all_goals go_ret
      all_goals exact ⟨rfl, by assumption⟩
    · have e2 : numS a x = ⟨#[]⟩ := by unfold numS; rw [hA]; rfl
      rw [hB, if_pos rfl] at sb
      rw [e2] at ha
      have HA := Lib.hid ha
      have HC := Lib.hid hc
      clear ha hc hA hB e2 sa
      generalize numS b x = S at *
      have s0 : S.toList.length = S.size := by rw [ByteArray.toList_eq, Array.length_toList]; rfl
      have s1 : S.toList ≠ [] := by rintro e; rw [e] at s0; simp at s0; omega
      have s2 : S.toList.isEmpty = false := by simpa using s1
      have z1 : (S.size : Int) = x := by omega
      clear s0 sb
      go_enter Try.func5, Try.ntmps5
      go_wp2_with (first
        | (go_at_call 14; ((with_reducible refine (HA.out _).mono ?_)); rintro e w' ⟨rfl, b1⟩; have hb := At.below (by assumption) b1; clear b1)
        | (go_at_call 14; ((with_reducible refine (HC.out _).mono ?_)); rintro e w' ⟨rfl, b1⟩; have hb := At.below (by assumption) b1; clear b1)
        | (go_at_call 6; refine (law7_awake w _ (by assumption)).mono ?_; rintro e w' ⟨rfl, hb⟩))
      all_goals go_ret
      all_goals exact ⟨rfl, by assumption⟩
    · have e1 : numS a x = ⟨#[]⟩ := by unfold numS; rw [hA]; rfl
      have e2 : numS b x = ⟨#[]⟩ := by unfold numS; rw [hB]; rfl
      have hq : a < 0 ∨ (0 ≤ a ∧ 256 ≤ a) := by
        simp only [numB, decide_eq_false_iff_not] at hA
        have hp : 256 ^ 1 ≤ 256 ^ x.toNat := Nat.pow_le_pow_right (by omega) (by omega)
        omega
      rw [e1] at ha
      rw [e2] at hc
      have HA := Lib.hid ha
      have HC := Lib.hid hc
      clear ha hc hA hB e1 e2 sa sb
      rcases hq with hq | ⟨hq1, hq2⟩
      all_goals
        go_enter Try.func5, Try.ntmps5
        go_wp2_with (first
          | (go_at_call 14; ((with_reducible refine (HA.out _).mono ?_)); rintro e w' ⟨rfl, b1⟩; have hb := At.below (by assumption) b1; clear b1)
          | (go_at_call 14; ((with_reducible refine (HC.out _).mono ?_)); rintro e w' ⟨rfl, b1⟩; have hb := At.below (by assumption) b1; clear b1)
          | (go_at_call 6; refine (law7_awake w _ (by assumption)).mono ?_; rintro e w' ⟨rfl, hb⟩))
        all_goals go_ret
        all_goals exact ⟨rfl, by assumption⟩
  · have e1 : numS a x = ⟨#[]⟩ := numS_no (by omega)
    have e2 : numS b x = ⟨#[]⟩ := numS_no (by omega)
    rw [e1] at ha
    rw [e2] at hc
    have HA := Lib.hid ha
    have HC := Lib.hid hc
    clear ha hc e1 e2 sa sb
    rcases (show x < 1 ∨ (1 ≤ x ∧ 7 < x) by omega) with h1 | ⟨h1, h2⟩
    all_goals
      clear hx
      go_enter Try.func5, Try.ntmps5
      go_wp2_with (first
        | (go_at_call 14; ((with_reducible refine (HA.out _).mono ?_)); rintro e w' ⟨rfl, b1⟩; have hb := At.below (by assumption) b1; clear b1)
        | (go_at_call 14; ((with_reducible refine (HC.out _).mono ?_)); rintro e w' ⟨rfl, b1⟩; have hb := At.below (by assumption) b1; clear b1)
        | (go_at_call 6; refine (law7_awake w _ (by assumption)).mono ?_; rintro e w' ⟨rfl, hb⟩))
      all_goals go_ret
      all_goals exact ⟨rfl, by assumption⟩

theorem lifted (os : Os) (started : os.Started) (H : Type) (enc : TypeId × Value → H) :
    ReturnsInHanded {} Try.checked os 5 .any (Rows.codeRisesSpec.pre6 enc Try.prog Try.f5 Rows.codeRisesRow.domain false) (Rows.codeRisesSpec.post enc Try.prog Try.f5 false true false false) := by
  refine law_lift started (by kernel_rfl) Try.func5 rfl rfl ?_ (by kernel_rfl)
    (ChangeSpec.witness6 (enc := enc) (C := Try.checked) false ⟨#[], #[.int .i64 0, .int .i64 0, .int .i64 0], []⟩ 8 (by kernel_rfl) (by kernel_rfl) (by kernel_rfl) (by kernel_rfl)) ?_
  · intro ds hl
    match ds, hl with
    | [_, _, _], _ => exact ⟨rfl, rfl, rfl⟩
  · intro W base args ds p hval hA hlt hwt
    rw [Try.params5] at hA hval hwt
    obtain ⟨v0, vs0, d0, ds0, p0, q0, hargs, rfl, rfl, h0, r0⟩ := trodAll_cons hA
    obtain ⟨v1, vs1, d1, ds1, p1, q1, rfl, rfl, rfl, h1, r1⟩ := trodAll_cons r0
    obtain ⟨v2, vs2, d2, ds2, p2, q2, rfl, rfl, rfl, h2, r2⟩ := trodAll_cons r1
    obtain ⟨rfl, rfl, rfl⟩ := trodAll_nil r2
    obtain rfl : args = #[v0, v1, v2] := by cases args; simp_all
    obtain ⟨a0, rfl, rfl, rfl, w0⟩ := open_int Try.underlying3 (hval 0 3 v0 rfl rfl) h0
    obtain ⟨a1, rfl, rfl, rfl, w1⟩ := open_int Try.underlying3 (hval 1 3 v1 rfl rfl) h1
    obtain ⟨a2, rfl, rfl, rfl, w2⟩ := open_int Try.underlying3 (hval 2 3 v2 rfl rfl) h2
    exact walk a0 w0 a1 w1 a2 w2 W

theorem over : Rows.codeRisesRow.holds Try.pinned (OpenSpec.ofChange Rows.codeRisesSpec) :=
  OpenClaim.holds_of_wide 5 Try.f5 rfl rfl rfl rfl rfl rfl rfl ⟨rfl, rfl, rfl, rfl, rfl⟩ rfl rfl rfl rfl rfl (by kernel_rfl) Try.func5 (by kernel_rfl)
    (of_decide_eq_true (by kernel_rfl)) (by unfold Func.isWrapper; first | (rw [if_pos (by decide +kernel)]; kernel_rfl) | (rw [if_neg (by decide +kernel)]; exact ⟨rfl, rfl⟩))
    (fun os started H enc _ => lifted os started H enc)

theorem proved : Rows.CodeRisesSaid := over
#print axioms proved
end Go.Proofs.Ytfgdbgpfmkhooaa.codeRises
