/- AmbientTowards holds of every base and every two lights that may be: the base goes towards the light, and never beyond it. No condition. -/
import Derived.Test.YtpgelcpnjggakaaAmbLaw
namespace Go.Proofs.Ytpgelcpnjggakaa.ambientTowards
open Go.ChangeShapes Go.WideShapes Go.ChangeAt Go.RowKit
set_option linter.unusedVariables false

set_option maxRecDepth 100000 in
set_option maxHeartbeats 2000000 in
theorem way (a b c : Int) (W : World) (a0 : 0 ≤ a) (a1 : a ≤ 4294967295) (b0 : 0 ≤ b) (b1 : b ≤ 65535) (c0 : 0 ≤ c) (c1 : c ≤ 65535) (x l m Y M Z u U : Int)
    (hx : a % 262081 = x) (hl : b % 4096 = l) (hm : c % 4096 = m) (x0 : 0 ≤ x) (x1 : x ≤ 262080) (l0 : 0 ≤ l) (l1 : l ≤ 4095) (m0 : 0 ≤ m) (m1 : m ≤ 4095)
    (hY : nxS x l = Y) (hM : (l < m ∧ M = m) ∨ (¬ l < m ∧ M = l ∧ Z = Y)) (hZ : nxS x M = Z) (hu : (x - c < 0 ∧ u = 0) ∨ (¬ x - c < 0 ∧ u = x - c)) (hU : nxS u l = U) (hZY : Y ≤ Z) (hUY : U ≤ Y)
    (hc : (x ≤ 64 * l ∧ x ≤ Y ∧ Y ≤ 64 * l) ∨ (64 * l < x ∧ 64 * l ≤ Y ∧ Y < x)) :
    Calls Try.prog 4 #[.int .u32 a, .int .u16 b, .int .u16 c] W fun e W' => e = .returned (.bool true) ∧ Below W.heap.size W W' := by
  have hb := At.refl W
  have t1 := decide_eq_true hZY
  have t2 := decide_eq_true hUY
  have Yb : 0 ≤ Y ∧ Y ≤ 262080 := by rw [← hY]; exact nxS_bd x0 x1 l0 l1
  obtain ⟨y0, y1⟩ := Yb
  clear hZY hUY
  have d1 : decide (Y < x) = false ∨ 64 * l < x := by rcases hc with ⟨_, h, _⟩ | ⟨h, _⟩ <;> simp <;> omega
  have hd : (x < 64 * l ∧ decide (Y < x) = false ∧ decide (64 * l < Y) = false ∧ decide (64 * l < x) = false ∧ (Y == Y) = true) ∨
      (x = 64 * l ∧ Y = 64 * l) ∨
      (64 * l < x ∧ decide (Y < 64 * l) = false ∧ decide (x < Y) = false ∧ decide (64 * l < x) = true ∧ (Y == x) = false) := by
    rcases hc with ⟨h1, h2, h3⟩ | ⟨h1, h2, h3⟩
    · rcases (by omega : x < 64 * l ∨ x = 64 * l) with h | h
      · refine .inl ⟨h, ?_, ?_, ?_, ?_⟩ <;> simp <;> omega
      · exact .inr (.inl ⟨h, by omega⟩)
    · refine .inr (.inr ⟨h1, ?_, ?_, ?_, ?_⟩) <;> simp <;> omega
  clear d1 hc
  rcases hd with ⟨k1, k2, k3, k4, _⟩ | ⟨rfl, rfl⟩ | ⟨k1, k2, k3, k4, k5⟩ <;> rcases hM with ⟨h1, rfl⟩ | ⟨h1, rfl, rfl⟩ <;> rcases hu with ⟨h2, rfl⟩ | ⟨h2, rfl⟩
  all_goals
    go_enter Try.func4, Try.ntmps4
    go_wp2_with (first
      | (go_at_call 8; ((with_reducible refine (am_next _ _ _ (by omega) (by omega) (by omega) (by omega) _ (by assumption)).mono ?_); rintro e w' ⟨rfl, hb⟩))
      | (go_at_call 12; refine (law16_awake _ _ (by assumption)).mono ?_; rintro e w' ⟨rfl, hb⟩))
    all_goals go_ret
    all_goals exact ⟨rfl, by assumption⟩

theorem walk (a : Int) (wa : (Lit.int .u32 a).wf = true) (b : Int) (wb : (Lit.int .u16 b).wf = true) (c : Int) (wc : (Lit.int .u16 c).wf = true) (W : World) :
    Calls Try.prog 4 #[.int .u32 a, .int .u16 b, .int .u16 c] W fun e W' => e = .returned (.bool true) ∧ Below W.heap.size W W' := by
  simp only [Lit.wf, IntKind.min, IntKind.max, IntKind.signed, IntKind.bits, Bool.and_eq_true] at wa wb wc
  simp at wa wb wc
  obtain ⟨x, hx⟩ : ∃ x, a % 262081 = x := ⟨_, rfl⟩
  obtain ⟨l, hl⟩ : ∃ x, b % 4096 = x := ⟨_, rfl⟩
  obtain ⟨m, hm⟩ : ∃ x, c % 4096 = x := ⟨_, rfl⟩
  have hc : (x ≤ 64 * l ∧ x ≤ nxS x l ∧ nxS x l ≤ 64 * l) ∨ (64 * l < x ∧ 64 * l ≤ nxS x l ∧ nxS x l < x) := by
    by_cases h : x ≤ 64 * l
    · exact .inl ⟨h, nxS_up h⟩
    · exact .inr ⟨by omega, nxS_down (by omega)⟩
  by_cases h1 : l < m <;> by_cases h2 : x - c < 0
  · exact way a b c W (by omega) (by omega) (by omega) (by omega) (by omega) (by omega) x l m _ m _ 0 _ hx hl hm (by omega) (by omega) (by omega) (by omega) (by omega) (by omega) rfl (.inl ⟨h1, rfl⟩) rfl (.inl ⟨h2, rfl⟩) rfl (nxS_light (by omega)) (nxS_base (by omega)) hc
  · exact way a b c W (by omega) (by omega) (by omega) (by omega) (by omega) (by omega) x l m _ m _ (x - c) _ hx hl hm (by omega) (by omega) (by omega) (by omega) (by omega) (by omega) rfl (.inl ⟨h1, rfl⟩) rfl (.inr ⟨h2, rfl⟩) rfl (nxS_light (by omega)) (nxS_base (by omega)) hc
  · exact way a b c W (by omega) (by omega) (by omega) (by omega) (by omega) (by omega) x l m _ l _ 0 _ hx hl hm (by omega) (by omega) (by omega) (by omega) (by omega) (by omega) rfl (.inr ⟨h1, rfl, rfl⟩) rfl (.inl ⟨h2, rfl⟩) rfl (nxS_light (by omega)) (nxS_base (by omega)) hc
  · exact way a b c W (by omega) (by omega) (by omega) (by omega) (by omega) (by omega) x l m _ l _ (x - c) _ hx hl hm (by omega) (by omega) (by omega) (by omega) (by omega) (by omega) rfl (.inr ⟨h1, rfl, rfl⟩) rfl (.inr ⟨h2, rfl⟩) rfl (nxS_light (by omega)) (nxS_base (by omega)) hc

theorem lifted (os : Os) (started : os.Started) (H : Type) (enc : TypeId × Value → H) :
    ReturnsInHanded {} Try.checked os 4 .any (Rows.ambientTowardsSpec.pre6 enc Try.prog Try.f4 Rows.ambientTowardsRow.domain false) (Rows.ambientTowardsSpec.post enc Try.prog Try.f4 false true false false) := by
  refine law_lift started (by kernel_rfl) Try.func4 rfl rfl ?_ (by kernel_rfl)
    (ChangeSpec.witness6 (enc := enc) (C := Try.checked) false ⟨#[], #[.int .u32 0, .int .u16 0, .int .u16 0], []⟩ 8 (by kernel_rfl) (by kernel_rfl) (by kernel_rfl) (by kernel_rfl)) ?_
  · intro ds hl
    match ds, hl with
    | [_, _, _], _ => exact ⟨rfl, rfl, rfl⟩
  · intro W base args ds p hval hA hlt hwt
    rw [Try.params4] at hA hval hwt
    obtain ⟨v0, vs0, d0, ds0, p0, q0, hargs, rfl, rfl, h0, r0⟩ := trodAll_cons hA
    obtain ⟨v1, vs1, d1, ds1, p1, q1, rfl, rfl, rfl, h1, r1⟩ := trodAll_cons r0
    obtain ⟨v2, vs2, d2, ds2, p2, q2, rfl, rfl, rfl, h2, r2⟩ := trodAll_cons r1
    obtain ⟨rfl, rfl, rfl⟩ := trodAll_nil r2
    obtain rfl : args = #[v0, v1, v2] := by cases args; simp_all
    obtain ⟨a0, rfl, rfl, rfl, w0⟩ := open_int Try.underlying26 (hval 0 26 v0 rfl rfl) h0
    obtain ⟨a1, rfl, rfl, rfl, w1⟩ := open_int Try.underlying27 (hval 1 27 v1 rfl rfl) h1
    obtain ⟨a2, rfl, rfl, rfl, w2⟩ := open_int Try.underlying27 (hval 2 27 v2 rfl rfl) h2
    exact walk a0 w0 a1 w1 a2 w2 W

theorem over : Rows.ambientTowardsRow.holds Try.pinned (OpenSpec.ofChange Rows.ambientTowardsSpec) :=
  OpenClaim.holds_of_wide 4 Try.f4 rfl rfl rfl rfl rfl rfl rfl ⟨rfl, rfl, rfl, rfl, rfl⟩ rfl rfl rfl rfl rfl (by kernel_rfl) Try.func4 (by kernel_rfl)
    (of_decide_eq_true (by kernel_rfl)) (by unfold Func.isWrapper; first | (rw [if_pos (by decide +kernel)]; kernel_rfl) | (rw [if_neg (by decide +kernel)]; exact ⟨rfl, rfl⟩))
    (fun os started H enc _ => lifted os started H enc)

theorem proved : Rows.AmbientTowardsSaid := over
#print axioms proved
end Go.Proofs.Ytpgelcpnjggakaa.ambientTowards
