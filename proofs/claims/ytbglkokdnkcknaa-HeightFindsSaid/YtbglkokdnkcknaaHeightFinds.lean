/- HeightFinds holds of any gain, any height, and any goal: the flow comes within an eighth of the goal in a hundred steps, and stays. No condition. -/
import Derived.Test.YtbglkokdnkcknaaHeight
import Derived.Test.YtbglkokdnkcknaaLift
namespace Go.Proofs.Ytbglkokdnkcknaa.heightFinds
open Go.ChangeShapes Go.WideShapes Go.ChangeAt Go.RowKit
set_option linter.unusedVariables false

def nxN (p g : Int) : Int := if 9 * p < 8 * g then g - (g / 16 + 1) else if 8 * g < 7 * p then g + (g / 16 + 1) else g
def upN : Nat → Int
  | 0 => 64
  | k + 1 => upN k + (upN k / 16 + 1)
def dnN : Nat → Int
  | 0 => 1024
  | k + 1 => dnN k - (dnN k / 16 + 1)
theorem up_end : 1024 < upN 100 := by decide +kernel
theorem dn_end : dnN 100 < 64 := by decide +kernel
/-- Within, or too high by no more than that, or too low by no more than that. -/
def InV (p g : Int) (k : Nat) : Prop := (7 * p ≤ 8 * g ∧ 8 * g ≤ 9 * p) ∨ (9 * p < 8 * g ∧ g ≤ dnN k) ∨ (8 * g < 7 * p ∧ upN k ≤ g)
theorem nx_bd {p g : Int} (p0 : 80 ≤ p) (p1 : p ≤ 900) (g0 : 64 ≤ g) (g1 : g ≤ 1024) : 64 ≤ nxN p g ∧ nxN p g ≤ 1024 := by
  unfold nxN; split <;> (try split) <;> omega
theorem in_next {p g : Int} {k : Nat} (p0 : 80 ≤ p) (p1 : p ≤ 900) (g0 : 64 ≤ g) (g1 : g ≤ 1024) (h : InV p g k) : InV p (nxN p g) (k + 1) := by
  unfold InV at *
  rw [dnN, upN]
  unfold nxN
  generalize dnN k = d at *
  generalize upN k = v at *
  split
  · omega
  · split <;> omega
theorem in_start {p g : Int} (g0 : 64 ≤ g) (g1 : g ≤ 1024) : InV p g 0 := by
  unfold InV; rw [dnN, upN]; omega
theorem in_end {p g : Int} (g0 : 64 ≤ g) (g1 : g ≤ 1024) (h : InV p g 100) : 7 * p ≤ 8 * g ∧ 8 * g ≤ 9 * p := by
  have := up_end
  have := dn_end
  unfold InV at h; omega
theorem adapt_is {m p g : Int} (m0 : 1 ≤ m) (m1 : m ≤ 60000) (p0 : 80 ≤ p) (p1 : p ≤ 900) (g0 : 64 ≤ g) (g1 : g ≤ 1024) (hp : m * p ≤ 100000000) (hp0 : 0 ≤ m * p) (hg : m * g ≤ 100000000) (hg0 : 0 ≤ m * g) : gnV g (m * p) (m * g) = nxN p g := by
  obtain ⟨e1, e2⟩ := go_sm hp0 (by omega) hg0 (by omega)
  have b1 : 9 * (m * p) < 8 * (m * g) ↔ 9 * p < 8 * g := by
    rw [show 9 * (m * p) = m * (9 * p) by rw [← Int.mul_assoc, ← Int.mul_assoc, Int.mul_comm 9 m], show 8 * (m * g) = m * (8 * g) by rw [← Int.mul_assoc, ← Int.mul_assoc, Int.mul_comm 8 m]]
    exact Int.mul_lt_mul_left (by omega)
  have b2 : 8 * (m * g) < 7 * (m * p) ↔ 8 * g < 7 * p := by
    rw [show 7 * (m * p) = m * (7 * p) by rw [← Int.mul_assoc, ← Int.mul_assoc, Int.mul_comm 7 m], show 8 * (m * g) = m * (8 * g) by rw [← Int.mul_assoc, ← Int.mul_assoc, Int.mul_comm 8 m]]
    exact Int.mul_lt_mul_left (by omega)
  have hG : gaV g = g := by unfold gaV; omega
  unfold gnV nxN
  rw [e1, e2, hG]
  by_cases h : 9 * p < 8 * g
  · rw [if_pos (decide_eq_true (b1.2 h)), if_pos h]
    unfold gaV; omega
  · rw [if_neg (by rw [decide_eq_false (fun k => h (b1.1 k))]; simp), if_neg h]
    by_cases h2 : 8 * g < 7 * p
    · rw [if_pos (decide_eq_true (b2.2 h2)), if_pos h2]
      unfold gaV; omega
    · rw [if_neg (by rw [decide_eq_false (fun k => h2 (b2.1 k))]; simp), if_neg h2]
theorem mul_bd {m p : Int} {M P : Int} (m0 : 0 ≤ m) (m1 : m ≤ M) (p0 : 0 ≤ p) (p1 : p ≤ P) : 0 ≤ m * p ∧ m * p ≤ M * P :=
  ⟨Int.mul_nonneg m0 p0, Int.mul_le_mul m1 p1 p0 (by omega)⟩

set_option maxRecDepth 100000 in
set_option maxHeartbeats 2000000 in
theorem way (a b c : Int) (a0 : 0 ≤ a) (a1 : a ≤ 65535) (b0 : 0 ≤ b) (b1 : b ≤ 65535) (c0 : 0 ≤ c) (c1 : c ≤ 65535) (W : World) (g m p : Int)
    (hg : 64 + a % 961 = g) (hm : 1 + b % 60000 = m) (hp : 80 + c % 821 = p) (g0 : 64 ≤ g) (g1 : g ≤ 1024) (m0 : 1 ≤ m) (m1 : m ≤ 60000) (p0 : 80 ≤ p) (p1 : p ≤ 900) :
    Calls Try.prog 7 #[.int .u16 a, .int .u16 b, .int .u16 c] W fun e W' => e = .returned (.bool true) ∧ Below W.heap.size W W' := by
  have ⟨mp0, mp1⟩ := mul_bd (m := m) (p := p) (M := 60000) (P := 900) (by omega) m1 (by omega) p1
  go_enter Try.func7, Try.ntmps7
  go_wp2
  clear hg hm hp
  go_loop [7, 25] (fun x i => ∃ (k : Nat) (g : Int), k ≤ 100 ∧ i = .int .i64 k ∧ x = .int .i64 g ∧ 64 ≤ g ∧ g ≤ 1024 ∧ Hid (InV p g k)) (fun _ i => 100 - (intOf i).toNat)
  case atStart => exact ⟨0, g, Nat.zero_le _, rfl, rfl, g0, g1, Lib.hid (in_start g0 g1)⟩
  case round =>
    clear g0 g1
    obtain ⟨k, y, hk, rfl, rfl, g0, g1, HI⟩ := hrel
    have ⟨mg0, mg1⟩ := mul_bd (m := m) (p := y) (M := 60000) (P := 1024) (by omega) m1 (by omega) g1
    have HS := Lib.hid (fun w => he_adapt y (m * p) (m * y) w)
    rw [adapt_is m0 m1 p0 p1 g0 g1 (by omega) mp0 (by omega) mg0] at HS
    by_cases hlt : k < 100
    · have ⟨n0, n1⟩ := nx_bd p0 p1 g0 g1
      have HN := Lib.hid (in_next p0 p1 g0 g1 HI.out)
      go_wp2_with (go_at_call 17; refine (HS.out _).mono ?_; rintro e w' ⟨rfl, rfl⟩)
      go_round
      case rel => exact ⟨k + 1, nxN p y, by omega, by go_num, rfl, n0, n1, HN⟩
      case measure => simp [intOf]; omega
    · obtain rfl : k = 100 := by omega
      obtain ⟨i0, i1⟩ := in_end g0 g1 HI.out
      rw [show nxN p y = y by unfold nxN; rw [if_neg (by omega), if_neg (by omega)]] at HS
      have l1 : 8 * m * y ≤ 9 * (m * p) := by
        rw [show 8 * m * y = m * (8 * y) by rw [Int.mul_comm 8 m, Int.mul_assoc], show 9 * (m * p) = m * (9 * p) by rw [← Int.mul_assoc, ← Int.mul_assoc, Int.mul_comm 9 m]]
        exact Int.mul_le_mul_of_nonneg_left i1 (by omega)
      have l2 : 7 * (m * p) ≤ 8 * m * y := by
        rw [show 8 * m * y = m * (8 * y) by rw [Int.mul_comm 8 m, Int.mul_assoc], show 7 * (m * p) = m * (7 * p) by rw [← Int.mul_assoc, ← Int.mul_assoc, Int.mul_comm 7 m]]
        exact Int.mul_le_mul_of_nonneg_left i0 (by omega)
      clear i0 i1
      have t1 : (y == y) = true := by simp
      go_wp2_with (first
        | (go_at_call 17; refine (HS.out _).mono ?_; rintro e w' ⟨rfl, rfl⟩)
        | (go_at_call 19; refine (law29_awake _).mono ?_; rintro e w' ⟨rfl, rfl⟩))
      all_goals go_ret
      all_goals exact ⟨rfl, Below.refl _ _⟩

theorem walk (a : Int) (wa : (Lit.int .u16 a).wf = true) (b : Int) (wb : (Lit.int .u16 b).wf = true) (c : Int) (wc : (Lit.int .u16 c).wf = true) (W : World) :
    Calls Try.prog 7 #[.int .u16 a, .int .u16 b, .int .u16 c] W fun e W' => e = .returned (.bool true) ∧ Below W.heap.size W W' := by
  simp only [Lit.wf, IntKind.min, IntKind.max, IntKind.signed, IntKind.bits, Bool.and_eq_true] at wa wb wc
  simp at wa wb wc
  exact way a b c (by omega) (by omega) (by omega) (by omega) (by omega) (by omega) W _ _ _ rfl rfl rfl (by omega) (by omega) (by omega) (by omega) (by omega) (by omega)

theorem lifted (os : Os) (started : os.Started) (H : Type) (enc : TypeId × Value → H) :
    ReturnsInHanded {} Try.checked os 7 .any (Rows.heightFindsSpec.pre6 enc Try.prog Try.f7 Rows.heightFindsRow.domain false) (Rows.heightFindsSpec.post enc Try.prog Try.f7 false true false false) := by
  refine law_lift started (by kernel_rfl) Try.func7 rfl rfl ?_ (by kernel_rfl)
    (ChangeSpec.witness6 (enc := enc) (C := Try.checked) false ⟨#[], #[.int .u16 0, .int .u16 0, .int .u16 0], []⟩ 8 (by kernel_rfl) (by kernel_rfl) (by kernel_rfl) (by kernel_rfl)) ?_
  · intro ds hl
    match ds, hl with
    | [_, _, _], _ => exact ⟨rfl, rfl, rfl⟩
  · intro W base args ds p hval hA hlt hwt
    rw [Try.params7] at hA hval hwt
    obtain ⟨v0, vs0, d0, ds0, p0, q0, hargs, rfl, rfl, h0, r0⟩ := trodAll_cons hA
    obtain ⟨v1, vs1, d1, ds1, p1, q1, rfl, rfl, rfl, h1, r1⟩ := trodAll_cons r0
    obtain ⟨v2, vs2, d2, ds2, p2, q2, rfl, rfl, rfl, h2, r2⟩ := trodAll_cons r1
    obtain ⟨rfl, rfl, rfl⟩ := trodAll_nil r2
    obtain rfl : args = #[v0, v1, v2] := by cases args; simp_all
    obtain ⟨a0, rfl, rfl, rfl, w0⟩ := open_int Try.underlying26 (hval 0 26 v0 rfl rfl) h0
    obtain ⟨a1, rfl, rfl, rfl, w1⟩ := open_int Try.underlying26 (hval 1 26 v1 rfl rfl) h1
    obtain ⟨a2, rfl, rfl, rfl, w2⟩ := open_int Try.underlying26 (hval 2 26 v2 rfl rfl) h2
    exact walk a0 w0 a1 w1 a2 w2 W

theorem over : Rows.heightFindsRow.holds Try.pinned (OpenSpec.ofChange Rows.heightFindsSpec) :=
  OpenClaim.holds_of_wide 7 Try.f7 rfl rfl rfl rfl rfl rfl rfl ⟨rfl, rfl, rfl, rfl, rfl⟩ rfl rfl rfl rfl rfl (by kernel_rfl) Try.func7 (by kernel_rfl)
    (of_decide_eq_true (by kernel_rfl)) (by unfold Func.isWrapper; first | (rw [if_pos (by decide +kernel)]; kernel_rfl) | (rw [if_neg (by decide +kernel)]; exact ⟨rfl, rfl⟩))
    (fun os started H enc _ => lifted os started H enc)

theorem proved : Rows.HeightFindsSaid := over
#print axioms proved
end Go.Proofs.Ytbglkokdnkcknaa.heightFinds
