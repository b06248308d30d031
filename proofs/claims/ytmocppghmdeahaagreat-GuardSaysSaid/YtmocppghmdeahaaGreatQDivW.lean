/- The walk of math/bits.Div64: of a number of two words, its high word less than the divisor, the quotient and what is left. -/
import Derived.Test.YtmocppghmdeahaaGreatQDiv
namespace Go.Proofs.YtmocppghmdeahaaGreat
set_option maxRecDepth 100000
open Go.RowKit
set_option linter.unusedVariables false
set_option linter.unusedSimpArgs false

/-- The five ways through a round of the loop that betters a guess. -/
theorem guess_ways {Y Y1 Y0 U L q r : Int} (h : Norm Y Y1 Y0) (g : Guess Y Y1 U L q r) (u0 : 0 ≤ U) (u1 : U < Y) (l0 : 0 ≤ L) (l1 : L ≤ 4294967295) :
    (∃ Q, 1 ≤ q ∧ q - 1 = Q ∧ decide (4294967296 ≤ q) = true ∧ decide (4294967296 ≤ r + Y1) = true ∧ Found Y U L Q) ∨
    (∃ Q, 1 ≤ q ∧ q - 1 = Q ∧ decide (4294967296 ≤ q) = false ∧ decide (4294967296 * r + L < q * Y0) = true ∧ decide (4294967296 ≤ r + Y1) = true ∧ 0 ≤ q * Y0 ∧ q * Y0 ≤ 18446744069414584320 ∧ Found Y U L Q) ∨
    (decide (4294967296 ≤ q) = false ∧ decide (4294967296 * r + L < q * Y0) = false ∧ 0 ≤ q * Y0 ∧ q * Y0 ≤ 18446744069414584320 ∧ Found Y U L q) ∨
    (1 ≤ q ∧ decide (4294967296 ≤ q) = true ∧ decide (4294967296 ≤ r + Y1) = false ∧ Guess Y Y1 U L (q - 1) (r + Y1)) ∨
    (1 ≤ q ∧ decide (4294967296 ≤ q) = false ∧ decide (4294967296 * r + L < q * Y0) = true ∧ decide (4294967296 ≤ r + Y1) = false ∧ 0 ≤ q * Y0 ∧ q * Y0 ≤ 18446744069414584320 ∧ Guess Y Y1 U L (q - 1) (r + Y1)) := by
  simp only [decide_eq_true_eq, decide_eq_false_iff_not]
  by_cases hb : 4294967296 ≤ q
  · have hlt := g.high h u1 l1 hb
    by_cases hr : 4294967296 ≤ r + Y1
    · exact .inl ⟨_, by omega, rfl, hb, hr, g.broke h u0 u1 l0 l1 hlt hr⟩
    · exact .inr (.inr (.inr (.inl ⟨by omega, hb, hr, g.next h u0 l0 hlt (by omega)⟩)))
  · have ⟨s0, s1⟩ := small_mul (q := q) g.q0 (by omega) h.lo0 h.hi0
    by_cases ht : 4294967296 * r + L < q * Y0
    · have hlt := g.test h (by omega)
      have hp := g.pos (Y0 := Y0) u0 l0 hlt
      by_cases hr : 4294967296 ≤ r + Y1
      · exact .inr (.inl ⟨_, hp, rfl, hb, ht, hr, s0, s1, g.broke h u0 u1 l0 l1 hlt hr⟩)
      · exact .inr (.inr (.inr (.inr ⟨hp, hb, ht, hr, s0, s1, g.next h u0 l0 hlt (by omega)⟩)))
    · exact .inr (.inr (.inl ⟨hb, ht, s0, s1, g.done h u1 l1 (by omega)⟩))

theorem ret_ii {k : IntKind} {a b c d : Int} (h : a = b) (h2 : c = d) : Ending.returned (.tuple #[.int k a, .int k c]) = Ending.returned (.tuple #[.int k b, .int k d]) := by rw [h, h2]
theorem left_wrap {U L Q Y R : Int} (h : U * 4294967296 + L - Q * Y = R) (h0 : 0 ≤ R) (h1 : R ≤ 18446744073709551615) :
    IntKind.u64.wrap (IntKind.u64.wrap (IntKind.u64.wrap (U * 4294967296) + L) - IntKind.u64.wrap (Q * Y)) = R := by
  generalize Q * Y = z at *
  simp only [IntKind.wrap_u64]; omega

set_option maxHeartbeats 1000000 in
theorem bits_div64_hi (hi lo y : Int) (h0 : 1 ≤ hi) (h1 : hi < y) (h2 : 0 ≤ lo) (h3 : lo ≤ 18446744073709551615) (h4 : y ≤ 18446744073709551615) (w : World) :
    Calls Tryz.prog 99 #[.int .u64 hi, .int .u64 lo, .int .u64 y] w fun e w' => e = .returned (.tuple #[.int .u64 ((hi * 18446744073709551616 + lo) / y), .int .u64 ((hi * 18446744073709551616 + lo) % y)]) ∧ ∃ n, w' = w.drewN n := by
  obtain ⟨b, hb⟩ : ∃ b, Lib.bitLen y.toNat = b := ⟨_, rfl⟩
  obtain ⟨Y, Y1, Y0, U, L, L1, L0, eY, eY1, eY0, eU, eL, eL1, eL0, hN, u0, u1, yb, l10, l11, l00, l01, p0, eP, eT, b1⟩ := norm_facts hi lo y b h0 h1 h2 h3 h4 hb
  have HB := Lib.hid hb
  have HP := Lib.hid eP
  have HT := Lib.hid eT
  have HN := Lib.hid hN
  have hg := Guess.start hN u0 u1 l10 l11
  have HG := Lib.hid hg
  have y11 := hN.lo1
  have y12 := hN.hi1
  have y00 := hN.lo0
  have y01 := hN.hi0
  have gq0 := hg.q0
  have gq1 := hg.q1
  have gr0 := hg.r0
  have gr1 := hg.r1
  have gm : 0 ≤ U / Y1 * Y1 := Int.mul_nonneg gq0 (by omega)
  clear hb eP eT hN hg
  have hz1 : (y == 0) = false := by simpa using (show y ≠ 0 by omega)
  have hz2 : (hi == 0) = false := by simpa using (show hi ≠ 0 by omega)
  go_enter Tryz.func99, Tryz.ntmps99
  go_wp2_with (go_at_call 107; refine (bits_lz64 _ _ (by omega) (by omega)).mono ?_; rintro e w' ⟨rfl, rfl⟩; rw [HB.out])
  go_loop [15, 16] (fun q r => ∃ Q R : Int, q = .int .u64 Q ∧ r = .int .u64 R ∧ Guess Y Y1 U L1 Q R) (fun q _ => (intOf q).toNat)
  case atStart => exact ⟨_, _, rfl, rfl, HG.out⟩
  case round =>
    obtain ⟨Q, R, rfl, rfl, hg⟩ := hrel
    have r0 := hg.r0
    have r1 := hg.r1
    have q0 := hg.q0
    have q1 := hg.q1
    rcases guess_ways HN.out hg u0 u1 l10 l11 with ⟨Q', p1, e1, t1, t2, f⟩ | ⟨Q', p1, e1, t1, t2, t3, s0, s1, f⟩ | ⟨t1, t2, s0, s1, f⟩ | ⟨p1, t1, t2, g⟩ | ⟨p1, t1, t2, t3, s0, s1, g⟩
    case inr.inr.inr.inl =>
      have G := Lib.hid g
      clear g hg
      go_wp2
      go_round
      case rel => exact ⟨_, _, rfl, rfl, G.out⟩
      case measure => simp [intOf]; omega
    case inr.inr.inr.inr =>
      have G := Lib.hid g
      clear g hg
      go_wp2
      go_round
      case rel => exact ⟨_, _, rfl, rfl, G.out⟩
      case measure => simp [intOf]; omega
    case inr.inr.inl => 
      have F := Lib.hid f
      obtain ⟨R', eR⟩ : ∃ R', U * 4294967296 + L1 - Q * Y = R' := ⟨_, rfl⟩
      have ⟨v0, v1⟩ := f.left
      rw [eR] at v0 v1
      have fq0 := f.q0
      have fq1 := f.q1
      have hw := left_wrap eR v0 (by omega)
      have ER := Lib.hid eR
      have k0 := Guess.start HN.out v0 v1 l00 l01
      have KG := Lib.hid k0
      have kq0 := k0.q0
      have kq1 := k0.q1
      have kr0 := k0.r0
      have kr1 := k0.r1
      have km : 0 ≤ R' / Y1 * Y1 := Int.mul_nonneg kq0 (by omega)
      clear f hg k0 eR
      go_wp2
      go_loop [18, 16] (fun q r => ∃ A B : Int, q = .int .u64 A ∧ r = .int .u64 B ∧ Guess Y Y1 R' L0 A B) (fun q _ => (intOf q).toNat)
      case atStart => exact ⟨_, _, rfl, rfl, KG.out⟩
      case round =>
        obtain ⟨A, B, rfl, rfl, hg⟩ := hrel
        have A0 := hg.r0
        have A1 := hg.r1
        have B0 := hg.q0
        have B1 := hg.q1
        rcases guess_ways HN.out hg v0 v1 l00 l01 with ⟨A', w1, x1, y1, y2, f⟩ | ⟨A', w1, x1, y1, y2, y3, z0, z1, f⟩ | ⟨y1, y2, z0, z1, f⟩ | ⟨w1, y1, y2, g⟩ | ⟨w1, y1, y2, y3, z0, z1, g⟩
        case inr.inr.inr.inl =>
          have G := Lib.hid g
          clear g hg
          go_wp2
          go_round
          case rel => exact ⟨_, _, rfl, rfl, G.out⟩
          case measure => simp [intOf]; omega
        case inr.inr.inr.inr =>
          have G := Lib.hid g
          clear g hg
          go_wp2
          go_round
          case rel => exact ⟨_, _, rfl, rfl, G.out⟩
          case measure => simp [intOf]; omega
        case inr.inr.inl => 
          have F2 := Lib.hid f
          obtain ⟨R2, eR2⟩ : ∃ R2, R' * 4294967296 + L0 - A * Y = R2 := ⟨_, rfl⟩
          have ⟨x0, x1⟩ := f.left
          rw [eR2] at x0 x1
          have hq0 := f.q0
          have hq1 := f.q1
          have hw2 := left_wrap eR2 x0 (by omega)
          have ER2 := Lib.hid eR2
          clear f hg eR2
          go_wp2
          go_ret2
          have ⟨d1, d2⟩ := both_digits (N := hi * 18446744073709551616 + lo) (q0 := A) p0 (show 0 < y by omega) HP.out HT.out F.out (by rw [ER.out]; exact F2.out)
          rw [ER.out, ER2.out] at d2
          exact ⟨ret_ii d1 d2, 0, rfl⟩
        case inl => 
          have F2 := Lib.hid f
          obtain ⟨R2, eR2⟩ : ∃ R2, R' * 4294967296 + L0 - A' * Y = R2 := ⟨_, rfl⟩
          have ⟨x0, x1⟩ := f.left
          rw [eR2] at x0 x1
          have hq0 := f.q0
          have hq1 := f.q1
          have hw2 := left_wrap eR2 x0 (by omega)
          have ER2 := Lib.hid eR2
          clear f hg eR2
          go_wp2
          go_ret2
          have ⟨d1, d2⟩ := both_digits (N := hi * 18446744073709551616 + lo) (q0 := A') p0 (show 0 < y by omega) HP.out HT.out F.out (by rw [ER.out]; exact F2.out)
          rw [ER.out, ER2.out] at d2
          exact ⟨ret_ii d1 d2, 0, rfl⟩
        case inr.inl => 
          have F2 := Lib.hid f
          obtain ⟨R2, eR2⟩ : ∃ R2, R' * 4294967296 + L0 - A' * Y = R2 := ⟨_, rfl⟩
          have ⟨x0, x1⟩ := f.left
          rw [eR2] at x0 x1
          have hq0 := f.q0
          have hq1 := f.q1
          have hw2 := left_wrap eR2 x0 (by omega)
          have ER2 := Lib.hid eR2
          clear f hg eR2
          go_wp2
          go_ret2
          have ⟨d1, d2⟩ := both_digits (N := hi * 18446744073709551616 + lo) (q0 := A') p0 (show 0 < y by omega) HP.out HT.out F.out (by rw [ER.out]; exact F2.out)
          rw [ER.out, ER2.out] at d2
          exact ⟨ret_ii d1 d2, 0, rfl⟩
    case inl => 
      have F := Lib.hid f
      obtain ⟨R', eR⟩ : ∃ R', U * 4294967296 + L1 - Q' * Y = R' := ⟨_, rfl⟩
      have ⟨v0, v1⟩ := f.left
      rw [eR] at v0 v1
      have fq0 := f.q0
      have fq1 := f.q1
      have hw := left_wrap eR v0 (by omega)
      have ER := Lib.hid eR
      have k0 := Guess.start HN.out v0 v1 l00 l01
      have KG := Lib.hid k0
      have kq0 := k0.q0
      have kq1 := k0.q1
      have kr0 := k0.r0
      have kr1 := k0.r1
      have km : 0 ≤ R' / Y1 * Y1 := Int.mul_nonneg kq0 (by omega)
      clear f hg k0 eR
      go_wp2
      go_loop [18, 16] (fun q r => ∃ A B : Int, q = .int .u64 A ∧ r = .int .u64 B ∧ Guess Y Y1 R' L0 A B) (fun q _ => (intOf q).toNat)
      case atStart => exact ⟨_, _, rfl, rfl, KG.out⟩
      case round =>
        obtain ⟨A, B, rfl, rfl, hg⟩ := hrel
        have A0 := hg.r0
        have A1 := hg.r1
        have B0 := hg.q0
        have B1 := hg.q1
        rcases guess_ways HN.out hg v0 v1 l00 l01 with ⟨A', w1, x1, y1, y2, f⟩ | ⟨A', w1, x1, y1, y2, y3, z0, z1, f⟩ | ⟨y1, y2, z0, z1, f⟩ | ⟨w1, y1, y2, g⟩ | ⟨w1, y1, y2, y3, z0, z1, g⟩
        case inr.inr.inr.inl =>
          have G := Lib.hid g
          clear g hg
          go_wp2
          go_round
          case rel => exact ⟨_, _, rfl, rfl, G.out⟩
          case measure => simp [intOf]; omega
        case inr.inr.inr.inr =>
          have G := Lib.hid g
          clear g hg
          go_wp2
          go_round
          case rel => exact ⟨_, _, rfl, rfl, G.out⟩
          case measure => simp [intOf]; omega
        case inr.inr.inl => 
          have F2 := Lib.hid f
          obtain ⟨R2, eR2⟩ : ∃ R2, R' * 4294967296 + L0 - A * Y = R2 := ⟨_, rfl⟩
          have ⟨x0, x1⟩ := f.left
          rw [eR2] at x0 x1
          have hq0 := f.q0
          have hq1 := f.q1
          have hw2 := left_wrap eR2 x0 (by omega)
          have ER2 := Lib.hid eR2
          clear f hg eR2
          go_wp2
          go_ret2
          have ⟨d1, d2⟩ := both_digits (N := hi * 18446744073709551616 + lo) (q0 := A) p0 (show 0 < y by omega) HP.out HT.out F.out (by rw [ER.out]; exact F2.out)
          rw [ER.out, ER2.out] at d2
          exact ⟨ret_ii d1 d2, 0, rfl⟩
        case inl => 
          have F2 := Lib.hid f
          obtain ⟨R2, eR2⟩ : ∃ R2, R' * 4294967296 + L0 - A' * Y = R2 := ⟨_, rfl⟩
          have ⟨x0, x1⟩ := f.left
          rw [eR2] at x0 x1
          have hq0 := f.q0
          have hq1 := f.q1
          have hw2 := left_wrap eR2 x0 (by omega)
          have ER2 := Lib.hid eR2
          clear f hg eR2
          go_wp2
          go_ret2
          have ⟨d1, d2⟩ := both_digits (N := hi * 18446744073709551616 + lo) (q0 := A') p0 (show 0 < y by omega) HP.out HT.out F.out (by rw [ER.out]; exact F2.out)
          rw [ER.out, ER2.out] at d2
          exact ⟨ret_ii d1 d2, 0, rfl⟩
        case inr.inl => 
          have F2 := Lib.hid f
          obtain ⟨R2, eR2⟩ : ∃ R2, R' * 4294967296 + L0 - A' * Y = R2 := ⟨_, rfl⟩
          have ⟨x0, x1⟩ := f.left
          rw [eR2] at x0 x1
          have hq0 := f.q0
          have hq1 := f.q1
          have hw2 := left_wrap eR2 x0 (by omega)
          have ER2 := Lib.hid eR2
          clear f hg eR2
          go_wp2
          go_ret2
          have ⟨d1, d2⟩ := both_digits (N := hi * 18446744073709551616 + lo) (q0 := A') p0 (show 0 < y by omega) HP.out HT.out F.out (by rw [ER.out]; exact F2.out)
          rw [ER.out, ER2.out] at d2
          exact ⟨ret_ii d1 d2, 0, rfl⟩
    case inr.inl => 
      have F := Lib.hid f
      obtain ⟨R', eR⟩ : ∃ R', U * 4294967296 + L1 - Q' * Y = R' := ⟨_, rfl⟩
      have ⟨v0, v1⟩ := f.left
      rw [eR] at v0 v1
      have fq0 := f.q0
      have fq1 := f.q1
      have hw := left_wrap eR v0 (by omega)
      have ER := Lib.hid eR
      have k0 := Guess.start HN.out v0 v1 l00 l01
      have KG := Lib.hid k0
      have kq0 := k0.q0
      have kq1 := k0.q1
      have kr0 := k0.r0
      have kr1 := k0.r1
      have km : 0 ≤ R' / Y1 * Y1 := Int.mul_nonneg kq0 (by omega)
      clear f hg k0 eR
      go_wp2
      go_loop [18, 16] (fun q r => ∃ A B : Int, q = .int .u64 A ∧ r = .int .u64 B ∧ Guess Y Y1 R' L0 A B) (fun q _ => (intOf q).toNat)
      case atStart => exact ⟨_, _, rfl, rfl, KG.out⟩
      case round =>
        obtain ⟨A, B, rfl, rfl, hg⟩ := hrel
        have A0 := hg.r0
        have A1 := hg.r1
        have B0 := hg.q0
        have B1 := hg.q1
        rcases guess_ways HN.out hg v0 v1 l00 l01 with ⟨A', w1, x1, y1, y2, f⟩ | ⟨A', w1, x1, y1, y2, y3, z0, z1, f⟩ | ⟨y1, y2, z0, z1, f⟩ | ⟨w1, y1, y2, g⟩ | ⟨w1, y1, y2, y3, z0, z1, g⟩
        case inr.inr.inr.inl =>
          have G := Lib.hid g
          clear g hg
          go_wp2
          go_round
          case rel => exact ⟨_, _, rfl, rfl, G.out⟩
          case measure => simp [intOf]; omega
        case inr.inr.inr.inr =>
          have G := Lib.hid g
          clear g hg
          go_wp2
          go_round
          case rel => exact ⟨_, _, rfl, rfl, G.out⟩
          case measure => simp [intOf]; omega
        case inr.inr.inl => 
          have F2 := Lib.hid f
          obtain ⟨R2, eR2⟩ : ∃ R2, R' * 4294967296 + L0 - A * Y = R2 := ⟨_, rfl⟩
          have ⟨x0, x1⟩ := f.left
          rw [eR2] at x0 x1
          have hq0 := f.q0
          have hq1 := f.q1
          have hw2 := left_wrap eR2 x0 (by omega)
          have ER2 := Lib.hid eR2
          clear f hg eR2
          go_wp2
          go_ret2
          have ⟨d1, d2⟩ := both_digits (N := hi * 18446744073709551616 + lo) (q0 := A) p0 (show 0 < y by omega) HP.out HT.out F.out (by rw [ER.out]; exact F2.out)
          rw [ER.out, ER2.out] at d2
          exact ⟨ret_ii d1 d2, 0, rfl⟩
        case inl => 
          have F2 := Lib.hid f
          obtain ⟨R2, eR2⟩ : ∃ R2, R' * 4294967296 + L0 - A' * Y = R2 := ⟨_, rfl⟩
          have ⟨x0, x1⟩ := f.left
          rw [eR2] at x0 x1
          have hq0 := f.q0
          have hq1 := f.q1
          have hw2 := left_wrap eR2 x0 (by omega)
          have ER2 := Lib.hid eR2
          clear f hg eR2
          go_wp2
          go_ret2
          have ⟨d1, d2⟩ := both_digits (N := hi * 18446744073709551616 + lo) (q0 := A') p0 (show 0 < y by omega) HP.out HT.out F.out (by rw [ER.out]; exact F2.out)
          rw [ER.out, ER2.out] at d2
          exact ⟨ret_ii d1 d2, 0, rfl⟩
        case inr.inl => 
          have F2 := Lib.hid f
          obtain ⟨R2, eR2⟩ : ∃ R2, R' * 4294967296 + L0 - A' * Y = R2 := ⟨_, rfl⟩
          have ⟨x0, x1⟩ := f.left
          rw [eR2] at x0 x1
          have hq0 := f.q0
          have hq1 := f.q1
          have hw2 := left_wrap eR2 x0 (by omega)
          have ER2 := Lib.hid eR2
          clear f hg eR2
          go_wp2
          go_ret2
          have ⟨d1, d2⟩ := both_digits (N := hi * 18446744073709551616 + lo) (q0 := A') p0 (show 0 < y by omega) HP.out HT.out F.out (by rw [ER.out]; exact F2.out)
          rw [ER.out, ER2.out] at d2
          exact ⟨ret_ii d1 d2, 0, rfl⟩

theorem bits_div64 (hi lo y : Int) (h0 : 0 ≤ hi) (h1 : hi < y) (h2 : 0 ≤ lo) (h3 : lo ≤ 18446744073709551615) (h4 : y ≤ 18446744073709551615) (w : World) :
    Calls Tryz.prog 99 #[.int .u64 hi, .int .u64 lo, .int .u64 y] w fun e w' => e = .returned (.tuple #[.int .u64 ((hi * 18446744073709551616 + lo) / y), .int .u64 ((hi * 18446744073709551616 + lo) % y)]) ∧ ∃ n, w' = w.drewN n := by
  by_cases hz : hi = 0
  · subst hz
    have hz1 : (y == 0) = false := by simpa using (show y ≠ 0 by omega)
    have e : (0 : Int) * 18446744073709551616 + lo = lo := by omega
    rw [e]
    clear e
    go_enter Tryz.func99, Tryz.ntmps99
    go_wp2
    go_quiet (fail)
    go_wp2
    go_ret2
    exact ⟨ret_ii rfl rfl, _, rfl⟩
  · exact bits_div64_hi hi lo y (by omega) h1 h2 h3 h4 w
end Go.Proofs.YtmocppghmdeahaaGreat
