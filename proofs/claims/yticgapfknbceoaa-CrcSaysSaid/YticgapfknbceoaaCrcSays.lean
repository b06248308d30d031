/- CrcSays holds of every text and every sum to go on from. No condition. -/
import Derived.Test.YticgapfknbceoaaLaw6
namespace Go.Proofs.Yticgapfknbceoaa.crcSays
open Go.ChangeShapes Go.WideShapes Go.ChangeAt Go.RowKit
set_option linter.unusedVariables false

set_option maxRecDepth 100000 in
theorem walk (w : World) (s : ByteArray) (hs : s.size ≤ maxLen) (c : Int) (wc : (Lit.int .u16 c).wf = true) :
    Calls Try.prog 3 #[.string s, .int .u16 c] w fun e w' => e = .returned (.bool true) ∧ Below w.heap.size w w' := by
  have c0 : 0 ≤ c ∧ c ≤ 65535 := by simp only [Lit.wf, IntKind.min, IntKind.max, IntKind.signed, IntKind.bits, Bool.and_eq_true] at wc; simpa using wc
  obtain ⟨n, rfl⟩ := Int.eq_ofNat_of_zero_le c0.1
  have hn : n < 65536 := by omega
  clear c0 wc hs
  have hb := At.refl w
  by_cases hl : 2000 < s.size
  · go_enter Try.func3, Try.ntmps3
    go_wp2_with (first
    | (go_at_call 7; refine (law6_awake _ _ (by assumption)).mono ?_; rintro e w' ⟨rfl, hb⟩))
    all_goals go_ret
    all_goals exact ⟨rfl, hb⟩
  · go_enter Try.func3, Try.ntmps3
    go_wp2_with (first
    | (go_at_call 10; refine (l6_more _ _ _ _ (by assumption) (by omega) (by assumption)).mono ?_; rintro e w' ⟨rfl, hb⟩)
    | (go_at_call 12; refine (l6_sum _ _ _ (by omega) (by assumption)).mono ?_; rintro e w' ⟨rfl, hb⟩)
    | (go_at_call 14; refine (l6_seal _ _ _ (by omega) (by assumption)).mono ?_; rintro e w' ⟨rfl, hb⟩)
    | (go_at_call 8; refine (l6_open _ _ _ (by omega) (by assumption)).mono ?_; rintro e w' ⟨rfl, hb⟩)
    | (go_at_call 11; refine (ref6_moreB _ _ _ (by assumption) (by omega)).mono ?_; rintro e w' ⟨rfl, rfl⟩)
    | (go_at_call 13; refine (ref6_sum _ _ (by omega)).mono ?_; rintro e w' ⟨rfl, rfl⟩)
    | (go_at_call 15; refine (l6r_seal _ _ _ (by omega) (by assumption)).mono ?_; rintro e w' ⟨rfl, hb⟩)
    | (go_at_call 9; refine (ref6_open _ _ (by omega)).mono ?_; rintro e w' ⟨rfl, rfl⟩)
    | (go_at_call 7; refine (law6_awake _ _ (by assumption)).mono ?_; rintro e w' ⟨rfl, hb⟩))
    all_goals go_ret
    all_goals exact ⟨rfl, by assumption⟩

theorem lifted (os : Os) (started : os.Started) (H : Type) (enc : TypeId × Value → H) :
    ReturnsInHanded {} Try.checked os 3 .any (Rows.crcSaysSpec.pre6 enc Try.prog Try.f3 Rows.crcSaysRow.domain false) (Rows.crcSaysSpec.post enc Try.prog Try.f3 false true false false) := by
  refine law_lift started (by kernel_rfl) Try.func3 rfl rfl ?_ (by kernel_rfl)
    (ChangeSpec.witness6 (enc := enc) (C := Try.checked) false ⟨#[], #[.string ⟨#[]⟩, .int .u16 0], []⟩ 8 (by kernel_rfl) (by kernel_rfl) (by kernel_rfl) (by kernel_rfl)) ?_
  · intro ds hl
    match ds, hl with
    | [_, _], _ => exact ⟨rfl, rfl, rfl⟩
  · intro W base args ds p hval hA hlt hwt
    rw [Try.params3] at hA hval hwt
    obtain ⟨v0, vs0, d0, ds0, p0, q0, hargs, rfl, rfl, h0, r0⟩ := trodAll_cons hA
    obtain ⟨v1, vs1, d1, ds1, p1, q1, rfl, rfl, rfl, h1, r1⟩ := trodAll_cons r0
    obtain ⟨rfl, rfl, rfl⟩ := trodAll_nil r1
    obtain rfl : args = #[v0, v1] := by cases args; simp_all
    obtain ⟨a0, rfl, rfl, rfl, w0⟩ := Go.ChangeMaps.open_string Try.underlying9 (hval 0 9 v0 rfl rfl) h0
    obtain ⟨a1, rfl, rfl, rfl, w1⟩ := open_int Try.underlying22 (hval 1 22 v1 rfl rfl) h1
    exact walk W a0 w0 a1 w1

theorem over : Rows.crcSaysRow.holds Try.pinned (OpenSpec.ofChange Rows.crcSaysSpec) :=
  OpenClaim.holds_of_wide 3 Try.f3 rfl rfl rfl rfl rfl rfl rfl ⟨rfl, rfl, rfl, rfl, rfl⟩ rfl rfl rfl rfl rfl (by kernel_rfl) Try.func3 (by kernel_rfl)
    (of_decide_eq_true (by kernel_rfl)) (by unfold Func.isWrapper; first | (rw [if_pos (by decide +kernel)]; kernel_rfl) | (rw [if_neg (by decide +kernel)]; exact ⟨rfl, rfl⟩))
    (fun os started H enc _ => lifted os started H enc)

theorem proved : Rows.CrcSaysSaid := over
#print axioms proved
end Go.Proofs.Yticgapfknbceoaa.crcSays
