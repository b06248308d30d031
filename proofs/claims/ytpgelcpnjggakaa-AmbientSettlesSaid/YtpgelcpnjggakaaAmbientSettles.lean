/- AmbientSettles holds of every base, every light, and however long: behind nine hundred ticks of one light the level is that light, or 1 less, and stays so. No condition. -/
import Derived.Test.YtpgelcpnjggakaaAmbLaw
namespace Go.Proofs.Ytpgelcpnjggakaa.ambientSettles
open Go.ChangeShapes Go.WideShapes Go.ChangeAt Go.RowKit
set_option linter.unusedVariables false

set_option maxRecDepth 100000 in
set_option maxHeartbeats 2000000 in
theorem way (a b c : Int) (W : World) (a0 : 0 ≤ a) (a1 : a ≤ 4294967295) (b0 : 0 ≤ b) (b1 : b ≤ 65535) (c0 : 0 ≤ c) (c1 : c ≤ 255) (x l : Int)
    (hx : a % 262081 = x) (hl : b % 4096 = l) (x0 : 0 ≤ x) (x1 : x ≤ 262080) (l0 : 0 ≤ l) (l1 : l ≤ 4095) :
    Calls Try.prog 5 #[.int .u32 a, .int .u16 b, .int .u8 c] W fun e W' => e = .returned (.bool true) ∧ Below W.heap.size W W' := by
  have hb := At.refl W
  have hfar : awayV x l ≤ farN 0 262080 := by unfold awayV farN; split <;> omega
  have HF := Lib.hid hfar
  clear hfar
  obtain ⟨n, hn⟩ : ∃ n : Nat, c + 1 = (n : Int) := ⟨(c + 1).toNat, by omega⟩
  have n1 : n ≤ 256 := by omega
  go_enter Try.func5, Try.ntmps5
  go_wp2
  simp only [hx, hl]
  clear hx hl
  go_loopw [7, 16] (fun v i wr => ∃ (k : Nat) (x : Int), k ≤ 900 ∧ i = .int .i64 k ∧ v = .int .i64 x ∧ 0 ≤ x ∧ x ≤ 262080 ∧ Hid (awayV x l ≤ farN k 262080) ∧ At W wr) (fun _ i _ => 900 - (intOf i).toNat)
  case atStart => exact ⟨0, x, Nat.zero_le _, rfl, rfl, x0, x1, HF, hb⟩
  case round =>
    clear x0 x1 HF hb
    obtain ⟨k, y, hk, rfl, rfl, x0, x1, HF, hb⟩ := hrel
    by_cases hlt : k < 900
    · have HN := Lib.hid (away_next HF.out)
      have ⟨y0, y1⟩ := nxS_bd x0 x1 l0 l1
      go_wp2_with (go_at_call 8; ((with_reducible refine (am_next _ _ _ (by omega) (by omega) (by omega) (by omega) _ (by assumption)).mono ?_); rintro e w' ⟨rfl, hb⟩))
      go_roundw
      case rel => exact ⟨k + 1, nxS y l, by omega, by go_num, rfl, y0, y1, HN, by assumption⟩
      case measure => simp [intOf]; omega
    · have hE : awayV y l ≤ 63 := by
        have h9 : k = 900 := by omega
        subst h9
        exact Int.le_trans HF.out far_end
      have HE := Lib.hid hE
      clear hE
      clear HF
      go_wp2
      go_loopw [7, 9, 25] (fun v u i wr => ∃ (k : Nat) (x : Int), k ≤ n ∧ i = .int .i64 k ∧ v = .int .i64 x ∧ 0 ≤ x ∧ x ≤ 262080 ∧ Hid (awayV x l ≤ 63) ∧ At W wr) (fun _ _ i _ => n - (intOf i).toNat)
      case atStart => exact ⟨0, y, Nat.zero_le _, rfl, rfl, x0, x1, HE, hb⟩
      case round =>
        clear x0 x1 HE hb
        obtain ⟨q, z, hq, rfl, rfl, x0, x1, HE, hb⟩ := hrel
        by_cases hqn : q < n
        · have HN := Lib.hid (away_63 HE.out)
          have ⟨y0, y1⟩ := nxS_bd x0 x1 l0 l1
          rcases away_lev HE.out with ⟨h1, h2⟩ | ⟨h1, h2⟩
          · have t1 : (l != l) = false := by simp
            go_wp2_with (first
              | (go_at_call 8; ((with_reducible refine (am_next _ _ _ (by omega) (by omega) (by omega) (by omega) _ (by assumption)).mono ?_); rintro e w' ⟨rfl, hb⟩))
              | (go_at_call 10; ((with_reducible refine (am_lev _ (by omega) (by omega) _).mono ?_); rintro e w' ⟨rfl, rfl⟩)))
            go_roundw
            case rel => exact ⟨q + 1, nxS z l, by omega, by go_num, rfl, y0, y1, HN, by assumption⟩
            case measure => simp [intOf]; omega
          · have t1 : (l - 1 != l) = true := by simp; omega
            have t2 : (l - 1 != l - 1) = false := by simp
            go_wp2_with (first
              | (go_at_call 8; ((with_reducible refine (am_next _ _ _ (by omega) (by omega) (by omega) (by omega) _ (by assumption)).mono ?_); rintro e w' ⟨rfl, hb⟩))
              | (go_at_call 10; ((with_reducible refine (am_lev _ (by omega) (by omega) _).mono ?_); rintro e w' ⟨rfl, rfl⟩)))
            go_roundw
            case rel => exact ⟨q + 1, nxS z l, by omega, by go_num, rfl, y0, y1, HN, by assumption⟩
            case measure => simp [intOf]; omega
        · obtain rfl : q = n := by omega
          have h2 : 64 * l / 64 = l := by omega
          have h3 := nxS_at l
          go_wp2_with (first
            | (go_at_call 8; ((with_reducible refine (am_next _ _ _ (by omega) (by omega) (by omega) (by omega) _ (by assumption)).mono ?_); rintro e w' ⟨rfl, hb⟩))
            | (go_at_call 6; ((with_reducible refine (am_begin _ (by omega) (by omega) _).mono ?_); rintro e w' ⟨rfl, rfl⟩))
            | (go_at_call 10; ((with_reducible refine (am_lev _ (by omega) (by omega) _).mono ?_); rintro e w' ⟨rfl, rfl⟩))
            | (go_at_call 12; refine (law16_awake _ _ (by assumption)).mono ?_; rintro e w' ⟨rfl, hb⟩))
          all_goals go_ret
          all_goals exact ⟨rfl, by assumption⟩

theorem walk (a : Int) (wa : (Lit.int .u32 a).wf = true) (b : Int) (wb : (Lit.int .u16 b).wf = true) (c : Int) (wc : (Lit.int .u8 c).wf = true) (W : World) :
    Calls Try.prog 5 #[.int .u32 a, .int .u16 b, .int .u8 c] W fun e W' => e = .returned (.bool true) ∧ Below W.heap.size W W' := by
  simp only [Lit.wf, IntKind.min, IntKind.max, IntKind.signed, IntKind.bits, Bool.and_eq_true] at wa wb wc
  simp at wa wb wc
  obtain ⟨x, hx⟩ : ∃ x, a % 262081 = x := ⟨_, rfl⟩
  obtain ⟨l, hl⟩ : ∃ x, b % 4096 = x := ⟨_, rfl⟩
  exact way a b c W (by omega) (by omega) (by omega) (by omega) (by omega) (by omega) x l hx hl (by omega) (by omega) (by omega) (by omega)

theorem lifted (os : Os) (started : os.Started) (H : Type) (enc : TypeId × Value → H) :
    ReturnsInHanded {} Try.checked os 5 .any (Rows.ambientSettlesSpec.pre6 enc Try.prog Try.f5 Rows.ambientSettlesRow.domain false) (Rows.ambientSettlesSpec.post enc Try.prog Try.f5 false true false false) := by
  refine law_lift started (by kernel_rfl) Try.func5 rfl rfl ?_ (by kernel_rfl)
    (ChangeSpec.witness6 (enc := enc) (C := Try.checked) false ⟨#[], #[.int .u32 0, .int .u16 0, .int .u8 0], []⟩ 8 (by kernel_rfl) (by kernel_rfl) (by kernel_rfl) (by kernel_rfl)) ?_
  · intro ds hl
    match ds, hl with
    | [_, _, _], _ => exact ⟨rfl, rfl, rfl⟩
  · intro W base args ds p hval hA hlt hwt
    rw [Try.params5] at hA hval hwt
    obtain ⟨v0, vs0, d0, ds0, p0, q0, hargs, rfl, rfl, h0, r0⟩ := trodAll_cons hA
    obtain ⟨v1, vs1, d1, ds1, p1, q1, rfl, rfl, rfl, h1, r1⟩ := trodAll_cons r0
    obtain ⟨v2, vs2, d2, ds2, p2, q2, rfl, rfl, rfl, h2, r2⟩ := trodAll_cons r1
    obtain ⟨rfl, rfl, rfl⟩ := trodAll_nil r2
    obtain rfl : args = #[v0, v1, v2] := by cases args; simp_all
    obtain ⟨a0, rfl, rfl, rfl, w0⟩ := open_int Try.underlying26 (hval 0 26 v0 rfl rfl) h0
    obtain ⟨a1, rfl, rfl, rfl, w1⟩ := open_int Try.underlying27 (hval 1 27 v1 rfl rfl) h1
    obtain ⟨a2, rfl, rfl, rfl, w2⟩ := open_int Try.underlying5 (hval 2 5 v2 rfl rfl) h2
    exact walk a0 w0 a1 w1 a2 w2 W

theorem over : Rows.ambientSettlesRow.holds Try.pinned (OpenSpec.ofChange Rows.ambientSettlesSpec) :=
  OpenClaim.holds_of_wide 5 Try.f5 rfl rfl rfl rfl rfl rfl rfl ⟨rfl, rfl, rfl, rfl, rfl⟩ rfl rfl rfl rfl rfl (by kernel_rfl) Try.func5 (by kernel_rfl)
    (of_decide_eq_true (by kernel_rfl)) (by unfold Func.isWrapper; first | (rw [if_pos (by decide +kernel)]; kernel_rfl) | (rw [if_neg (by decide +kernel)]; exact ⟨rfl, rfl⟩))
    (fun os started H enc _ => lifted os started H enc)

theorem proved : Rows.AmbientSettlesSaid := over
#print axioms proved
end Go.Proofs.Ytpgelcpnjggakaa.ambientSettles
