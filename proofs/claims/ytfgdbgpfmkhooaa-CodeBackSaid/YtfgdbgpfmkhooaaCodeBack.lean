/- CodeBack holds of every two lists of numbers and every text: what is packed is unpacked as it was, and the other way round. No condition. -/
import Derived.Test.YtfgdbgpfmkhooaaLaw7
namespace Go.Proofs.Ytfgdbgpfmkhooaa.codeBack
open Go.ChangeShapes Go.WideShapes Go.ChangeAt Go.RowKit
set_option linter.unusedVariables false

theorem pk_in : ∀ (xs ws : List Int) (l : List UInt8), xs.length = ws.length → pk xs ws = some l → ∀ x ∈ xs, -9223372036854775808 ≤ x ∧ x ≤ 9223372036854775807
  | [], _, _, _, _ => by simp
  | x :: xs, w :: ws, l, hl, h => by
    simp only [pk] at h
    split at h
    next hb =>
      obtain ⟨r, hr, rfl⟩ := Option.map_eq_some_iff.1 h
      have ih := pk_in xs ws r (by simpa using hl) hr
      simp only [numB, decide_eq_true_eq] at hb
      have hp : 256 ^ w.toNat ≤ 256 ^ 7 := Nat.pow_le_pow_right (by omega) (by omega)
      rw [show 256 ^ 7 = 72057594037927936 by decide] at hp
      intro y hy
      rcases List.mem_cons.1 hy with rfl | hy
      · omega
      · exact ih y hy
    next => cases h
  | _ :: _, [], _, hl, _ => by simp at hl
theorem pkB_in {xs ws : List Int} (h : pkB xs ws = true) : ∀ x ∈ xs, -9223372036854775808 ≤ x ∧ x ≤ 9223372036854775807 := by
  unfold pkB at h
  obtain ⟨l, hl⟩ := Option.isSome_iff_exists.1 h
  unfold pkO at hl
  split at hl
  next hc => exact pk_in xs ws l hc.1 hl
  next => cases hl

set_option maxRecDepth 100000 in
set_option maxHeartbeats 1000000 in
theorem walk (w : World) (A : Option Addr) (n c : Nat) (xs : List Int) (hi : Ints w A n xs) (hc : n ≤ c) (hr : n * 8 ≤ 140737488351232) (wx : ∀ x ∈ xs, (Lit.int .i64 x).wf = true)
    (B : Option Addr) (m d : Nat) (ws : List Int) (hj : Ints w B m ws) (hd : m ≤ d) (hq : m * 8 ≤ 140737488351232) (ww : ∀ x ∈ ws, (Lit.int .i64 x).wf = true) (s : ByteArray) (hs : s.size ≤ maxLen) :
    Calls Try.prog 4 #[.slice A n c, .slice B m d, .string s] w fun e w' => e = .returned (.bool true) ∧ Below w.heap.size w w' := by
  have hx : ∀ x ∈ xs, -9223372036854775808 ≤ x ∧ x ≤ 9223372036854775807 := fun x h => wf_bd (wx x h)
  clear wx ww hs
  have hb := At.refl w
  by_cases h1 : 70 < n
  · clear hi hj hx
    go_enter Try.func4, Try.ntmps4
    go_wp2_with (go_at_call 6; refine (law7_awake w _ (by assumption)).mono ?_; rintro e w' ⟨rfl, hb⟩)
    all_goals go_ret
    all_goals exact ⟨rfl, by assumption⟩
  by_cases h2 : 70 < m
  · clear hi hj hx
    go_enter Try.func4, Try.ntmps4
    go_wp2_with (go_at_call 6; refine (law7_awake w _ (by assumption)).mono ?_; rintro e w' ⟨rfl, hb⟩)
    all_goals go_ret
    all_goals exact ⟨rfl, by assumption⟩
  by_cases h3 : 300 < s.size
  · clear hi hj hx
    go_enter Try.func4, Try.ntmps4
    go_wp2_with (go_at_call 6; refine (law7_awake w _ (by assumption)).mono ?_; rintro e w' ⟨rfl, hb⟩)
    all_goals go_ret
    all_goals exact ⟨rfl, by assumption⟩
  have HX := Lib.hid hi
  have HW := Lib.hid hj
  have hP := code_pack A B n c m d xs ws w hi hj (by omega) (by omega) hx
  have hps := pkS_size xs ws
  have e1 := eqL_refl xs
  clear hi hj
  rcases Bool.eq_false_or_eq_true (upB s.data.toList ws) with hu | hu
  · obtain ⟨u1, u2, u3, u4⟩ := back_up hu
    have u5 := pkB_in u1
    have u6 : pkS (upV s.data.toList ws) ws = s := by
      apply ByteArray.ext; apply Array.toList_inj.1; exact u2
    have hU2 := fun (w' : World) (h : At w w') => code_unpack s B m d ws w' (HW.out.below h) (by omega) (by omega)
    rw [hu] at hU2
    have hP2 := fun (w' : World) (R : Option Addr) (dd : Nat) (h : At w w') (hi : Ints w' R (upV s.data.toList ws).length (upV s.data.toList ws)) => code_pack R B (upV s.data.toList ws).length dd m d (upV s.data.toList ws) ws w' hi (HW.out.below h) (by omega) (by omega) u5
    rw [u1, u6] at hP2
    have HU2 := Lib.hid hU2
    have HP2 := Lib.hid hP2
    clear hU2 hP2 u1 u2 u3 u4 u5 u6 hu
    generalize upV s.data.toList ws = ys at *
    rcases Bool.eq_false_or_eq_true (pkB xs ws) with hk | hk
    · obtain ⟨v1, v2⟩ := back_pk hk
      have hU1 := fun (w' : World) (h : At w w') => code_unpack (pkS xs ws) B m d ws w' (HW.out.below h) (by omega) (by omega)
      rw [v1, v2] at hU1
      rw [hk] at hP
      have HP := Lib.hid hP
      have HU1 := Lib.hid hU1
      clear hP hU1 hk v1 v2
      generalize pkS xs ws = p at *
      go_enter Try.func4, Try.ntmps4
      go_wp2_with (first
        | (go_at_call 7; ((with_reducible refine HP.out.mono ?_)); rintro e w1 ⟨rfl, b1⟩; have A1 : At w w1 := b1; clear b1)
        | (go_at_call 9; ((with_reducible refine (HU1.out _ A1).mono ?_)); rintro e w2 ⟨R, dd, rfl, _, i2, b2⟩; have A2 := A1.below b2; have I2 := Lib.hid i2; clear i2 b2)
        | (go_at_call 11; refine (l7_ints w _ _ _ _ _ _ xs xs _ A2 I2.out (HX.out.below A2) (by have := HX.out.1; omega) (by omega)).mono ?_; rintro e w3 ⟨rfl, _, A3⟩)
        | (go_at_call 9; ((with_reducible refine (HU2.out _ A3).mono ?_)); rintro e w4 ⟨R2, d2, rfl, _, i4, b4⟩; have A4 := A3.below b4; have I4 := Lib.hid i4; clear i4 b4)
        | (go_at_call 7; ((with_reducible refine (HP2.out _ _ _ A4 I4.out).mono ?_)); rintro e w5 ⟨rfl, b5⟩; have A5 := A4.below b5; clear b5)
        | (go_at_call 6; refine (law7_awake w _ A5).mono ?_; rintro e w' ⟨rfl, A6⟩))
      all_goals go_ret
      all_goals exact ⟨rfl, A6⟩
    · rw [pk_none hk, hk] at hP
      have HP := Lib.hid hP
      clear hP hk hps
      go_enter Try.func4, Try.ntmps4
      go_wp2_with (first
        | (go_at_call 7; ((with_reducible refine HP.out.mono ?_)); rintro e w1 ⟨rfl, b1⟩; have A3 : At w w1 := b1; clear b1)
        | (go_at_call 9; ((with_reducible refine (HU2.out _ A3).mono ?_)); rintro e w4 ⟨R2, d2, rfl, _, i4, b4⟩; have A4 := A3.below b4; have I4 := Lib.hid i4; clear i4 b4)
        | (go_at_call 7; ((with_reducible refine (HP2.out _ _ _ A4 I4.out).mono ?_)); rintro e w5 ⟨rfl, b5⟩; have A5 := A4.below b5; clear b5)
        | (go_at_call 6; refine (law7_awake w _ A5).mono ?_; rintro e w' ⟨rfl, A6⟩))
      all_goals go_ret
      all_goals exact ⟨rfl, A6⟩
  · have hU2 := fun (w' : World) (h : At w w') => code_unpack s B m d ws w' (HW.out.below h) (by omega) (by omega)
    rw [hu, up_none hu] at hU2
    have HU2 := Lib.hid hU2
    clear hU2 hu
    rcases Bool.eq_false_or_eq_true (pkB xs ws) with hk | hk
    · obtain ⟨v1, v2⟩ := back_pk hk
      have hU1 := fun (w' : World) (h : At w w') => code_unpack (pkS xs ws) B m d ws w' (HW.out.below h) (by omega) (by omega)
      rw [v1, v2] at hU1
      rw [hk] at hP
      have HP := Lib.hid hP
      have HU1 := Lib.hid hU1
      clear hP hU1 hk v1 v2
      generalize pkS xs ws = p at *
      go_enter Try.func4, Try.ntmps4
      go_wp2_with (first
        | (go_at_call 7; ((with_reducible refine HP.out.mono ?_)); rintro e w1 ⟨rfl, b1⟩; have A1 : At w w1 := b1; clear b1)
        | (go_at_call 9; ((with_reducible refine (HU1.out _ A1).mono ?_)); rintro e w2 ⟨R, dd, rfl, _, i2, b2⟩; have A2 := A1.below b2; have I2 := Lib.hid i2; clear i2 b2)
        | (go_at_call 11; refine (l7_ints w _ _ _ _ _ _ xs xs _ A2 I2.out (HX.out.below A2) (by have := HX.out.1; omega) (by omega)).mono ?_; rintro e w3 ⟨rfl, _, A3⟩)
        | (go_at_call 9; ((with_reducible refine (HU2.out _ A3).mono ?_)); rintro e w4 ⟨R2, d2, rfl, _, _, b4⟩; have A4 := A3.below b4; clear b4)
        | (go_at_call 6; refine (law7_awake w _ A4).mono ?_; rintro e w' ⟨rfl, A6⟩))
      all_goals go_ret
      all_goals exact ⟨rfl, A6⟩
    · rw [pk_none hk, hk] at hP
      have HP := Lib.hid hP
      clear hP hk hps
      go_enter Try.func4, Try.ntmps4
      go_wp2_with (first
        | (go_at_call 7; ((with_reducible refine HP.out.mono ?_)); rintro e w1 ⟨rfl, b1⟩; have A3 : At w w1 := b1; clear b1)
        | (go_at_call 9; ((with_reducible refine (HU2.out _ A3).mono ?_)); rintro e w4 ⟨R2, d2, rfl, _, _, b4⟩; have A4 := A3.below b4; clear b4)
        | (go_at_call 6; refine (law7_awake w _ A4).mono ?_; rintro e w' ⟨rfl, A6⟩))
      all_goals go_ret
      all_goals exact ⟨rfl, A6⟩

theorem lifted (os : Os) (started : os.Started) (H : Type) (enc : TypeId × Value → H) :
    ReturnsInHanded {} Try.checked os 4 .any (Rows.codeBackSpec.pre6 enc Try.prog Try.f4 Rows.codeBackRow.domain false) (Rows.codeBackSpec.post enc Try.prog Try.f4 false true false false) := by
  refine law_lift started (by kernel_rfl) Try.func4 rfl rfl ?_ (by kernel_rfl)
    (ChangeSpec.witness6 (enc := enc) (C := Try.checked) false ⟨#[], #[.slice none 0 0, .slice none 0 0, .string ⟨#[]⟩], []⟩ 8 (by kernel_rfl) (by kernel_rfl) (by kernel_rfl) (by kernel_rfl)) ?_
  · intro ds hl
    match ds, hl with
    | [_, _, _], _ => exact ⟨rfl, rfl, rfl⟩
  · intro W base args ds p hval hA hlt hwt
    rw [Try.params4] at hA hval hwt
    obtain ⟨v0, vs0, d0, ds0, p0, q0, hargs, rfl, rfl, h0, r0⟩ := trodAll_cons hA
    obtain ⟨v1, vs1, d1, ds1, p1, q1, rfl, rfl, rfl, h1, r1⟩ := trodAll_cons r0
    obtain ⟨v2, vs2, d2, ds2, p2, q2, rfl, rfl, rfl, h2, r2⟩ := trodAll_cons r1
    obtain ⟨rfl, rfl, rfl⟩ := trodAll_nil r2
    obtain rfl : args = #[v0, v1, v2] := by cases args; simp_all
    have wt0 : ∀ n ∈ d0.weights Try.prog 22, n ≤ reachBytes := fun n hn => by
      have := List.all_eq_true.1 hwt n (DataW.weights_mem_each (j := 0) (t := 22) (d := d0) rfl rfl n hn)
      simpa using this
    have lt0 : ∀ x ∈ p0, x.block < W.heap.size := fun x hx => hlt x (by simp [hx])
    obtain ⟨A0, n0, c0, xs0, rfl, hi0, hc0, hr0, w0⟩ := open_ints_arg Try.underlying22 Try.underlying3 (by kernel_rfl) (by kernel_rfl) (hval 0 22 v0 rfl rfl) h0 lt0 wt0
    have wt1 : ∀ n ∈ d1.weights Try.prog 22, n ≤ reachBytes := fun n hn => by
      have := List.all_eq_true.1 hwt n (DataW.weights_mem_each (j := 1) (t := 22) (d := d1) rfl rfl n hn)
      simpa using this
    have lt1 : ∀ x ∈ p1, x.block < W.heap.size := fun x hx => hlt x (by simp [hx])
    obtain ⟨A1, n1, c1, xs1, rfl, hi1, hc1, hr1, w1⟩ := open_ints_arg Try.underlying22 Try.underlying3 (by kernel_rfl) (by kernel_rfl) (hval 1 22 v1 rfl rfl) h1 lt1 wt1
    obtain ⟨a2, rfl, rfl, rfl, w2⟩ := Go.ChangeMaps.open_string Try.underlying9 (hval 2 9 v2 rfl rfl) h2
    exact walk W A0 n0 c0 xs0 hi0 hc0 hr0 w0 A1 n1 c1 xs1 hi1 hc1 hr1 w1 a2 w2

theorem over : Rows.codeBackRow.holds Try.pinned (OpenSpec.ofChange Rows.codeBackSpec) :=
  OpenClaim.holds_of_wide 4 Try.f4 rfl rfl rfl rfl rfl rfl rfl ⟨rfl, rfl, rfl, rfl, rfl⟩ rfl rfl rfl rfl rfl (by kernel_rfl) Try.func4 (by kernel_rfl)
    (of_decide_eq_true (by kernel_rfl)) (by unfold Func.isWrapper; first | (rw [if_pos (by decide +kernel)]; kernel_rfl) | (rw [if_neg (by decide +kernel)]; exact ⟨rfl, rfl⟩))
    (fun os started H enc _ => lifted os started H enc)

theorem proved : Rows.CodeBackSaid := over
#print axioms proved
end Go.Proofs.Ytfgdbgpfmkhooaa.codeBack
