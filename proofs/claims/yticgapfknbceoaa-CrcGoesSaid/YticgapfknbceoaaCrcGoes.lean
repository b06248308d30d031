/- CrcGoes holds of every two texts: what is sealed is opened, and a sum is gone on with. No condition. -/
import Derived.Test.YticgapfknbceoaaLaw6
namespace Go.Proofs.Yticgapfknbceoaa.crcGoes
open Go.ChangeShapes Go.WideShapes Go.ChangeAt Go.RowKit
set_option linter.unusedVariables false

theorem sum_append (s t : ByteArray) : moreN (sumB s) t.data.toList = sumB (s ++ t) := by
  unfold sumB
  rw [ByteArray.data_append, Array.toList_append, more_append]
theorem seal_told (t : ByteArray) (h : openB t = true) : ((sealB (toldB t)).toList == t.toList) = true := by
  unfold toldB
  rw [if_pos h]
  unfold openB at h
  rw [Bool.and_eq_true] at h
  exact h.2
theorem told_none (t : ByteArray) (h : openB t = false) : toldB t = ⟨#[]⟩ := by
  unfold toldB
  rw [h]
  rfl
theorem told_size (t : ByteArray) : (toldB t).size ≤ t.size := by
  unfold toldB
  split
  · unfold insideB; rw [ByteArray.size_extract]; omega
  · exact Nat.zero_le _

set_option maxRecDepth 100000 in
theorem walk (w : World) (s : ByteArray) (hs : s.size ≤ maxLen) (t : ByteArray) (ht : t.size ≤ maxLen) :
    Calls Try.prog 4 #[.string s, .string t] w fun e w' => e = .returned (.bool true) ∧ Below w.heap.size w w' := by
  clear hs ht
  have hb := At.refl w
  by_cases hl : 2000 < s.size
  · go_enter Try.func4, Try.ntmps4
    go_wp2_with (first
    | (go_at_call 7; refine (law6_awake _ _ (by assumption)).mono ?_; rintro e w' ⟨rfl, hb⟩))
    all_goals go_ret
    all_goals exact ⟨rfl, by assumption⟩
  by_cases hl2 : 2000 < t.size
  · go_enter Try.func4, Try.ntmps4
    go_wp2_with (first
    | (go_at_call 7; refine (law6_awake _ _ (by assumption)).mono ?_; rintro e w' ⟨rfl, hb⟩))
    all_goals go_ret
    all_goals exact ⟨rfl, by assumption⟩
  have e1 := seal_size s
  have e2 := open_seal s
  have e3 := told_seal s
  have e4 := sum_append s t
  have e5 := sumB_lt s
  have e6 := told_size t
  have e10 : (s ++ t).size = s.size + t.size := ByteArray.size_append
  rcases Bool.eq_false_or_eq_true (openB t) with e7 | e7
  · have e8 := seal_told t e7
    go_enter Try.func4, Try.ntmps4
    go_wp2_with (first
    | (go_at_call 10; refine (l6_more _ _ _ _ (by assumption) (by omega) (by assumption)).mono ?_; rintro e w' ⟨rfl, hb⟩)
    | (go_at_call 12; refine (l6_sum _ _ _ (by omega) (by assumption)).mono ?_; rintro e w' ⟨rfl, hb⟩)
    | (go_at_call 14; refine (l6_seal _ _ _ (by omega) (by assumption)).mono ?_; rintro e w' ⟨rfl, hb⟩)
    | (go_at_call 8; refine (l6_open _ _ _ (by omega) (by assumption)).mono ?_; rintro e w' ⟨rfl, hb⟩)
    | (go_at_call 7; refine (law6_awake _ _ (by assumption)).mono ?_; rintro e w' ⟨rfl, hb⟩))
    all_goals go_ret
    all_goals exact ⟨rfl, by assumption⟩
  · have e8 := told_none t e7
    have e9 : (ByteArray.mk #[]).size = 0 := rfl
    go_enter Try.func4, Try.ntmps4
    go_wp2_with (first
    | (go_at_call 10; refine (l6_more _ _ _ _ (by assumption) (by omega) (by assumption)).mono ?_; rintro e w' ⟨rfl, hb⟩)
    | (go_at_call 12; refine (l6_sum _ _ _ (by omega) (by assumption)).mono ?_; rintro e w' ⟨rfl, hb⟩)
    | (go_at_call 14; refine (l6_seal _ _ _ (by omega) (by assumption)).mono ?_; rintro e w' ⟨rfl, hb⟩)
    | (go_at_call 8; refine (l6_open _ _ _ (by omega) (by assumption)).mono ?_; rintro e w' ⟨rfl, hb⟩)
    | (go_at_call 7; refine (law6_awake _ _ (by assumption)).mono ?_; rintro e w' ⟨rfl, hb⟩))
    all_goals go_ret
    all_goals exact ⟨rfl, by assumption⟩

theorem lifted (os : Os) (started : os.Started) (H : Type) (enc : TypeId × Value → H) :
    ReturnsInHanded {} Try.checked os 4 .any (Rows.crcGoesSpec.pre6 enc Try.prog Try.f4 Rows.crcGoesRow.domain false) (Rows.crcGoesSpec.post enc Try.prog Try.f4 false true false false) := by
  refine law_lift started (by kernel_rfl) Try.func4 rfl rfl ?_ (by kernel_rfl)
    (ChangeSpec.witness6 (enc := enc) (C := Try.checked) false ⟨#[], #[.string ⟨#[]⟩, .string ⟨#[]⟩], []⟩ 8 (by kernel_rfl) (by kernel_rfl) (by kernel_rfl) (by kernel_rfl)) ?_
  · intro ds hl
    match ds, hl with
    | [_, _], _ => exact ⟨rfl, rfl, rfl⟩
  · intro W base args ds p hval hA hlt hwt
    rw [Try.params4] at hA hval hwt
    obtain ⟨v0, vs0, d0, ds0, p0, q0, hargs, rfl, rfl, h0, r0⟩ := trodAll_cons hA
    obtain ⟨v1, vs1, d1, ds1, p1, q1, rfl, rfl, rfl, h1, r1⟩ := trodAll_cons r0
    obtain ⟨rfl, rfl, rfl⟩ := trodAll_nil r1
    obtain rfl : args = #[v0, v1] := by cases args; simp_all
    obtain ⟨a0, rfl, rfl, rfl, w0⟩ := Go.ChangeMaps.open_string Try.underlying9 (hval 0 9 v0 rfl rfl) h0
    obtain ⟨a1, rfl, rfl, rfl, w1⟩ := Go.ChangeMaps.open_string Try.underlying9 (hval 1 9 v1 rfl rfl) h1
    exact walk W a0 w0 a1 w1

theorem over : Rows.crcGoesRow.holds Try.pinned (OpenSpec.ofChange Rows.crcGoesSpec) :=
  OpenClaim.holds_of_wide 4 Try.f4 rfl rfl rfl rfl rfl rfl rfl ⟨rfl, rfl, rfl, rfl, rfl⟩ rfl rfl rfl rfl rfl (by kernel_rfl) Try.func4 (by kernel_rfl)
    (of_decide_eq_true (by kernel_rfl)) (by unfold Func.isWrapper; first | (rw [if_pos (by decide +kernel)]; kernel_rfl) | (rw [if_neg (by decide +kernel)]; exact ⟨rfl, rfl⟩))
    (fun os started H enc _ => lifted os started H enc)

theorem proved : Rows.CrcGoesSaid := over
#print axioms proved
end Go.Proofs.Yticgapfknbceoaa.crcGoes
