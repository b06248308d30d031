/- CompareQuiet holds of every level, light, and list of lights: light that moves by less than the limits are apart turns it once at the most. No condition. -/
import Derived.Test.YtlclapedabgiaaaComp
import Derived.Test.YtlclapedabgiaaaLift
import Derived.Test.YtlclapedabgiaaaArr
import Derived.Test.YtlclapedabgiaaaNums
import Derived.Test.YtlclapedabgiaaaBox
namespace Go.Proofs.Ytlclapedabgiaaa.compareQuiet
open Go.ChangeShapes Go.WideShapes Go.ChangeAt Go.RowKit
set_option linter.unusedVariables false
attribute [local go_sem] Near.cell Near.frozen

/-- What it can't leave again. -/
theorem sticky {p q : Int} (p0 : 0 ≤ p) (p1 : p ≤ 65535) (q0 : 0 ≤ q) (q1 : q ≤ 65535) : ∃ z : Bool, ∀ v : Int, 0 ≤ v → v ≤ 199 → shdB p (q + v) z = z := by
  by_cases h : 400 ≤ p - q
  · refine ⟨true, fun v v0 v1 => ?_⟩
    unfold shdB subV
    rw [clV_in (n := p) (by omega), clV_in (n := q + v) (by omega), clV_in (by omega)]
    simp; omega
  · refine ⟨false, fun v v0 v1 => ?_⟩
    unfold shdB subV
    rw [clV_in (n := p) (by omega), clV_in (n := q + v) (by omega), clV_in (by omega)]
    simp; omega

set_option maxRecDepth 100000 in
set_option maxHeartbeats 4000000 in
theorem way (W : World) (p q : Int) (p0 : 0 ≤ p) (p1 : p ≤ 65535) (q0 : 0 ≤ q) (q1 : q ≤ 65535) (A : Option Addr) (n c : Nat) (xs : List Int) (hi : Nums .u8 W A n xs) (hn : n ≤ 200) (hc : n ≤ c) (wx : ∀ x ∈ xs, (Lit.int .u8 x).wf = true) (was z : Bool)
    (hz : ∀ v : Int, 0 ≤ v → v ≤ 199 → shdB p (q + v) z = z) :
    Calls Try.prog 5 #[.agg #[.int .u16 p, .int .u16 q], .slice A n c, .bool was] W fun e W' => e = .returned (.bool true) ∧ Below W.heap.size W W' := by
  have HI := Lib.hid hi
  have HX := Lib.hid (show ∀ j : Nat, j < n → 0 ≤ xs.getD j 0 ∧ xs.getD j 0 ≤ 255 from fun j hj => by
    have hj' : j < xs.length := by have := hi.1; omega
    have h := wx (xs.getD j 0) (by simp [List.getD, List.getElem?_eq_getElem hj'])
    simp only [Lit.wf, IntKind.min, IntKind.max, IntKind.signed, IntKind.bits, Bool.and_eq_true] at h
    simpa using h)
  have HZ := Lib.hid hz
  have A0 : Below W.heap.size W W := Below.refl _ _
  have A1 := below_alloc_on A0 (.cells #[.int .u16 p, .int .u16 q] 25)
  have B1 := box_new W #[.int .u16 p, .int .u16 q] 25
  have t1 : decide (200 < (n : Int)) = false := decide_eq_false (by omega)
  clear hi wx hz
  go_enter Try.func5, Try.ntmps5
  go_wp2
  generalize W.alloc (.cells #[.int .u16 p, .int .u16 q] 25) = w1 at *
  go_loopw [7, 8, 9, 10, 18] (fun t now _ _ i wr => ∃ (j : Nat) (T : Int) (b : Bool), j ≤ n ∧ i = .int .i64 j ∧ t = .int .i64 T ∧ now = .bool b ∧ ((b = was ∧ T = 0) ∨ (b = z ∧ T = 1)) ∧ Below W.heap.size W wr ∧ Box wr W.heap.size #[.int .u16 p, .int .u16 q]) (fun _ _ _ _ i _ => n - (intOf i).toNat)
  case atStart => exact ⟨0, 0, was, Nat.zero_le _, rfl, rfl, rfl, .inl ⟨rfl, rfl⟩, A1, B1⟩
  case round =>
    clear A1 B1
    obtain ⟨j, T, b, hj, rfl, rfl, rfl, hs, A1, B1⟩ := hrel
    by_cases hlt : j < n
    · obtain ⟨g, off, rfl, hbs, hck⟩ := (HI.out.below A1).at_ hlt
      obtain ⟨x0, x1⟩ := HX.out j hlt
      generalize xs.getD j 0 = x at *
      obtain ⟨v, hv⟩ : ∃ v, x % 200 = v := ⟨_, rfl⟩
      have v0 : 0 ≤ v := by omega
      have v1 : v ≤ 199 := by omega
      have hvt : Int.tmod x 200 = v := by rw [Int.tmod_eq_emod_of_nonneg (by omega)]; exact hv
      have hw1 : IntKind.i64.wrap x = x := IntWalk.i64_in _ (by omega)
      have hw2 : IntKind.i64.wrap p = p := IntWalk.i64_in _ (by omega)
      have hw3 : IntKind.i64.wrap q = q := IntWalk.i64_in _ (by omega)
      have hw4 : IntKind.i64.wrap (q + v) = q + v := IntWalk.i64_in _ (by omega)
      have hz := HZ.out v v0 v1
      obtain ⟨s, hs2⟩ : ∃ s, shdB p (q + v) b = s := ⟨_, rfl⟩
      have HN : Hid (s = b ∨ (s = z ∧ b = was ∧ T = 0)) := by
        rcases hs with ⟨rfl, rfl⟩ | ⟨rfl, rfl⟩
        · cases z <;> cases b <;> cases s <;> first | exact .inl rfl | exact .inr ⟨rfl, rfl, rfl⟩ | simp_all
        · exact .inl (by rw [← hs2, hz])
      have HS := Lib.hid (show ∀ w, Calls Try.prog 6 #[.int .i64 p, .int .i64 (q + v), .bool b] w fun e w' => e = .returned (.bool s) ∧ w = w' from fun w => hs2 ▸ cp_shaded p (q + v) b w)
      obtain ⟨b0, b1, bf, bl⟩ := B1.two
      have T1 : 0 ≤ T := by rcases hs with ⟨_, h⟩ | ⟨_, h⟩ <;> omega
      have T2 : T ≤ 1 := by rcases hs with ⟨_, h⟩ | ⟨_, h⟩ <;> omega
      have HR := Lib.hid hs
      clear hz hs2 hs
      go_wp2
      refine wp_region_calm (by kernel_rfl) (by kernel_rfl) ?_
      repeat (go_big_quiet_step (((go_at_call 6; exact calm_same _ (HS.out _)))))
      refine wpQuiet_nil ?_
      intro _ hw'
      obtain ⟨u, rfl⟩ := hw'
      have A2 := u.up A1
      have B2 := B1.near u
      clear hw1 hw2 hw3 hw4 hv hvt
      by_cases hsb : s = b
      · subst hsb
        have t2 : (s != s) = false := by simp
        go_wp2
        go_roundw
        case rel => exact ⟨j + 1, T, s, by omega, by go_num, rfl, rfl, HR.out, A2, B2⟩
        case measure => simp [intOf]; omega
      · rcases HN.out with h | ⟨h1, h2, rfl⟩
        · exact absurd h hsb
        · subst h1
          subst h2
          clear HZ
          cases s <;> cases b
          · exact absurd rfl hsb
          · clear hsb
            go_wp2
            go_roundw
            case rel => exact ⟨j + 1, 1, false, by omega, by go_num, rfl, rfl, .inr ⟨rfl, rfl⟩, A2, B2⟩
            case measure => simp [intOf]; omega
          · clear hsb
            go_wp2
            go_roundw
            case rel => exact ⟨j + 1, 1, true, by omega, by go_num, rfl, rfl, .inr ⟨rfl, rfl⟩, A2, B2⟩
            case measure => simp [intOf]; omega
          · exact absurd rfl hsb
    · obtain rfl : j = n := by omega
      have T1 : 0 ≤ T := by rcases hs with ⟨_, h⟩ | ⟨_, h⟩ <;> omega
      have T2 : T ≤ 1 := by rcases hs with ⟨_, h⟩ | ⟨_, h⟩ <;> omega
      have t3 := decide_eq_true T2
      clear hs
      go_wp2_with (first
    | (go_at_call 8; refine (law17_awake _).mono ?_; rintro e w' ⟨rfl, rfl⟩))
      all_goals go_ret
      all_goals exact ⟨rfl, A1⟩

set_option maxRecDepth 100000 in
theorem walk (W : World) (p : Int) (wp : (Lit.int .u16 p).wf = true) (q : Int) (wq : (Lit.int .u16 q).wf = true) (A : Option Addr) (n c : Nat) (xs : List Int) (hi : Nums .u8 W A n xs) (hc : n ≤ c) (hr : n * 1 ≤ 140737488351232) (wx : ∀ x ∈ xs, (Lit.int .u8 x).wf = true) (was : Bool) :
    Calls Try.prog 5 #[.agg #[.int .u16 p, .int .u16 q], .slice A n c, .bool was] W fun e W' => e = .returned (.bool true) ∧ Below W.heap.size W W' := by
  by_cases hn : 200 < n
  · have t1 : decide (200 < (n : Int)) = true := decide_eq_true (by omega)
    have A0 : Below W.heap.size W W := Below.refl _ _
    clear hi wx
    go_enter Try.func5, Try.ntmps5
    go_wp2_with (first
    | (go_at_call 8; refine (law17_awake _).mono ?_; rintro e w' ⟨rfl, rfl⟩))
    all_goals go_ret
    all_goals exact ⟨rfl, by (repeat (first | (with_reducible exact Below.refl _ _) | (with_reducible assumption) | (with_reducible refine Near.up _ ?_) | (with_reducible refine below_alloc_on ?_ _) | (with_reducible refine below_set_on ?_ (by first | (simp; done) | (simp; omega) | omega) _)))⟩
  · simp only [Lit.wf, IntKind.min, IntKind.max, IntKind.signed, IntKind.bits, Bool.and_eq_true] at wp wq
    simp at wp wq
    obtain ⟨z, hz⟩ := sticky (p := p) (q := q) (by omega) (by omega) (by omega) (by omega)
    exact way W p q (by omega) (by omega) (by omega) (by omega) A n c xs hi (by omega) hc wx was z hz

theorem lifted (os : Os) (started : os.Started) (H : Type) (enc : TypeId × Value → H) :
    ReturnsInHanded {} Try.checked os 5 .any (Rows.compareQuietSpec.pre6 enc Try.prog Try.f5 Rows.compareQuietRow.domain false) (Rows.compareQuietSpec.post enc Try.prog Try.f5 false true false false) := by
  refine law_lift started (by kernel_rfl) Try.func5 rfl rfl ?_ (by kernel_rfl)
    (ChangeSpec.witness6 (enc := enc) (C := Try.checked) false ⟨#[], #[.agg #[.int .u16 0, .int .u16 0], .slice none 0 0, .bool false], []⟩ 8 (by kernel_rfl) (by kernel_rfl) (by kernel_rfl) (by kernel_rfl)) ?_
  · intro ds hl
    match ds, hl with
    | [_, _, _], _ => exact ⟨rfl, rfl, rfl⟩
  · intro W base args ds p hval hA hlt hwt
    rw [Try.params5] at hA hval hwt
    obtain ⟨v0, vs0, d0, ds0, p0, q0, hargs, rfl, rfl, h0, r0⟩ := trodAll_cons hA
    obtain ⟨v1, vs1, d1, ds1, p1, q1, rfl, rfl, rfl, h1, r1⟩ := trodAll_cons r0
    obtain ⟨v2, vs2, d2, ds2, p2, q2, rfl, rfl, rfl, h2, r2⟩ := trodAll_cons r1
    obtain ⟨rfl, rfl, rfl⟩ := trodAll_nil r2
    obtain rfl : args = #[v0, v1, v2] := by cases args; simp_all
    obtain ⟨xs0, rfl, l0, w0⟩ := open_int_cells Try.underlying25 Try.underlying24 (by kernel_rfl) (by kernel_rfl) (hval 0 25 v0 rfl rfl) h0
    match xs0, l0, w0 with
    | [x0_0, x0_1], _, w0 =>
    have wt1 : ∀ n ∈ d1.weights Try.prog 28, n ≤ reachBytes := fun n hn => by
      have := List.all_eq_true.1 hwt n (DataW.weights_mem_each (j := 1) (t := 28) (d := d1) rfl rfl n hn)
      simpa using this
    have lt1 : ∀ x ∈ p1, x.block < W.heap.size := fun x hx => hlt x (by simp [hx])
    obtain ⟨A1, n1, c1, xs1, rfl, hi1, hc1, hr1, w1⟩ := open_nums_arg Try.underlying28 Try.underlying5 (by kernel_rfl) (by kernel_rfl) (hval 1 28 v1 rfl rfl) h1 lt1 wt1
    obtain ⟨a2, rfl, rfl, rfl⟩ := open_bool Try.underlying4 (hval 2 4 v2 rfl rfl) h2
    exact walk W x0_0 (w0 _ (by simp)) x0_1 (w0 _ (by simp)) A1 n1 c1 xs1 hi1 hc1 hr1 w1 a2

theorem over : Rows.compareQuietRow.holds Try.pinned (OpenSpec.ofChange Rows.compareQuietSpec) :=
  OpenClaim.holds_of_wide 5 Try.f5 rfl rfl rfl rfl rfl rfl rfl ⟨rfl, rfl, rfl, rfl, rfl⟩ rfl rfl rfl rfl rfl (by kernel_rfl) Try.func5 (by kernel_rfl)
    (of_decide_eq_true (by kernel_rfl)) (by unfold Func.isWrapper; first | (rw [if_pos (by decide +kernel)]; kernel_rfl) | (rw [if_neg (by decide +kernel)]; exact ⟨rfl, rfl⟩))
    (fun os started H enc _ => lifted os started H enc)

theorem proved : Rows.CompareQuietSaid := over
#print axioms proved
end Go.Proofs.Ytlclapedabgiaaa.compareQuiet
