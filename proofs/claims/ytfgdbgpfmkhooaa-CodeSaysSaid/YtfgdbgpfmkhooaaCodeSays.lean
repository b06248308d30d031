/- CodeSays holds of every two lists of numbers and every text: what is told, taken, packed and unpacked is the document's. No condition. -/
import Derived.Test.YtfgdbgpfmkhooaaLaw7
namespace Go.Proofs.Ytfgdbgpfmkhooaa.codeSays
open Go.ChangeShapes Go.WideShapes Go.ChangeAt Go.RowKit
set_option linter.unusedVariables false

set_option maxRecDepth 100000 in
set_option maxHeartbeats 1000000 in
theorem walk (w : World) (A : Option Addr) (n c : Nat) (xs : List Int) (hi : Ints w A n xs) (hc : n ≤ c) (hr : n * 8 ≤ 140737488351232) (wx : ∀ x ∈ xs, (Lit.int .i64 x).wf = true)
    (B : Option Addr) (m d : Nat) (ws : List Int) (hj : Ints w B m ws) (hd : m ≤ d) (hq : m * 8 ≤ 140737488351232) (ww : ∀ x ∈ ws, (Lit.int .i64 x).wf = true) (s : ByteArray) (hs : s.size ≤ maxLen) :
    Calls Try.prog 3 #[.slice A n c, .slice B m d, .string s] w fun e w' => e = .returned (.bool true) ∧ Below w.heap.size w w' := by
  have hx : ∀ x ∈ xs, -9223372036854775808 ≤ x ∧ x ≤ 9223372036854775807 := fun x h => wf_bd (wx x h)
  clear wx ww hs
  have hb := At.refl w
  by_cases h1 : 80 < n
  · clear hi hj hx
    go_enter Try.func3, Try.ntmps3
    go_wp2_with (go_at_call 6; refine (law7_awake w _ (by assumption)).mono ?_; rintro e w' ⟨rfl, hb⟩)
    all_goals go_ret
    all_goals exact ⟨rfl, by assumption⟩
  by_cases h2 : 80 < m
  · clear hi hj hx
    go_enter Try.func3, Try.ntmps3
    go_wp2_with (go_at_call 6; refine (law7_awake w _ (by assumption)).mono ?_; rintro e w' ⟨rfl, hb⟩)
    all_goals go_ret
    all_goals exact ⟨rfl, by assumption⟩
  by_cases h3 : 200 < s.size
  · clear hi hj hx
    go_enter Try.func3, Try.ntmps3
    go_wp2_with (go_at_call 6; refine (law7_awake w _ (by assumption)).mono ?_; rintro e w' ⟨rfl, hb⟩)
    all_goals go_ret
    all_goals exact ⟨rfl, by assumption⟩
  have HX := Lib.hid hi
  have HW := Lib.hid hj
  have HBB := Lib.hid hx
  have hP := code_pack A B n c m d xs ws w hi hj (by omega) (by omega) hx
  have hQ := fun (w' : World) (h : At w w') => ref7_pack A B n c m d xs ws w' (HX.out.below h) (HW.out.below h) (by omega) (by omega) hx
  have hU := fun (w' : World) (h : At w w') => code_unpack s B m d ws w' (HW.out.below h) (by omega) (by omega)
  have hV := fun (w' : World) (h : At w w') => ref7_unpack s B m d ws w' (HW.out.below h) (by omega) (by omega)
  have hyl : (upV s.data.toList ws).length ≤ 64 := by
    rcases Bool.eq_false_or_eq_true (upB s.data.toList ws) with hu | hu
    · have := (back_up hu).2.2; omega
    · rw [up_none hu]; simp
  have e1 := eqL_refl (upV s.data.toList ws)
  clear hi hj hx
  generalize upV s.data.toList ws = ys at *
  generalize upB s.data.toList ws = ub at *
  generalize pkS xs ws = p at *
  generalize pkB xs ws = pb at *
  have HP := Lib.hid hP
  have HQ := Lib.hid hQ
  have HU := Lib.hid hU
  have HV := Lib.hid hV
  clear hP hQ hU hV
  go_enter Try.func3, Try.ntmps3
  go_wp2_with (first
    | (go_at_call 7; refine HP.out.mono ?_; rintro e w1 ⟨rfl, b1⟩; have A1 : At w w1 := b1; clear b1)
    | (go_at_call 8; refine (HQ.out _ A1).mono ?_; rintro e w2 ⟨rfl, b2⟩; have A2 := A1.below b2; clear b2)
    | (go_at_call 9; refine (HU.out _ A2).mono ?_; rintro e w3 ⟨R, dd, rfl, _, i3, b3⟩; have A3 := A2.below b3; have I3 := Lib.hid i3; clear i3 b3)
    | (go_at_call 10; refine (HV.out _ A3).mono ?_; rintro e w4 ⟨R2, d2, rfl, _, i4, b4⟩; have A4 := A3.below b4; have J3 := Lib.hid (I3.out.below b4); have I4 := Lib.hid i4; clear i4 b4)
    | (go_at_call 11; refine (l7_ints w _ _ _ _ _ _ ys ys _ A4 J3.out I4.out (by omega) (by omega)).mono ?_; rintro e w5 ⟨rfl, _, A5⟩))
  clear HP HQ HU HV
  go_loopw [80] (fun i wr => ∃ k : Nat, k ≤ n ∧ i = .int .i64 k ∧ At w wr) (fun i _ => n - (intOf i).toNat)
  case atStart => exact ⟨0, Nat.zero_le _, rfl, A5⟩
  case round =>
    obtain ⟨k, hk, rfl, hA⟩ := hrel
    by_cases hlt : k < n
    · obtain ⟨b1, o1, rfl, hb1, hc1⟩ := HX.out.at_ hlt
      have hk0 := (hA.cell (p := ⟨b1, o1 + k, none⟩) hb1).trans hc1
      have hk1 := fun u : Near wr => (u.cell (p := ⟨b1, o1 + k, none⟩) (Nat.lt_of_lt_of_le hb1 hA.size)).trans ((hA.cell (p := ⟨b1, o1 + k, none⟩) hb1).trans hc1)
      have hxr := HBB.out (xs.getD k 0) (by rw [List.getD, List.getElem?_eq_getElem (by have := HX.out.1; omega)]; exact List.getElem_mem _)
      clear hc1
      generalize xs.getD k 0 = x at *
      obtain ⟨x0, x9⟩ := hxr
      by_cases hkm : k < m
      · obtain ⟨b2, o2, rfl, hb2, hc2⟩ := HW.out.at_ hkm
        have hk2 := (hA.cell (p := ⟨b2, o2 + k, none⟩) hb2).trans hc2
        generalize ws.getD k 0 = y at *
        have hT := fun w => code_take s x y (by omega) x9 w
        have hS := fun w => ref7_take s x y (by omega) x9 w
        have hN := fun w => code_num x y x0 x9 w
        have hM := fun w => ref7_num x y x0 x9 w
        generalize takV s.data.toList x y = V at *
        generalize takB s.size x y = b at *
        generalize numS x y = T at *
        have HT := Lib.hid hT
        have HS := Lib.hid hS
        have HN := Lib.hid hN
        have HM := Lib.hid hM
        clear hT hS hN hM hc2
        go_wp2_with (first
          | (go_at_call 12; refine (HT.out _).mono ?_; rintro e w2 ⟨rfl, rfl⟩)
          | (go_at_call 13; refine (HS.out _).mono ?_; rintro e w2 ⟨rfl, rfl⟩))
        refine wp_region_calm (by kernel_rfl) (by kernel_rfl) ?_
        repeat (go_big_quiet_step (first
          | (go_at_call 14; with_reducible exact calm_of _ (HN.out _))
          | (go_at_call 15; with_reducible exact calm_of _ (HM.out _))))
        refine wpQuiet_nil ?_
        intro _ hw'
        obtain ⟨u, rfl⟩ := hw'
        have HU := hA.below u.below
        clear hk0 hk1 hk2 hA
        go_wp2
        go_roundw
        case rel => exact ⟨k + 1, by omega, by go_num, HU⟩
        case measure => simp [intOf]; omega
      · have tm : decide ((k : Int) < m) = false := by simp; omega
        have hT := fun w => code_take s x 1 (by omega) x9 w
        have hS := fun w => ref7_take s x 1 (by omega) x9 w
        have hN := fun w => code_num x 1 x0 x9 w
        have hM := fun w => ref7_num x 1 x0 x9 w
        generalize takV s.data.toList x 1 = V at *
        generalize takB s.size x 1 = b at *
        generalize numS x 1 = T at *
        have HT := Lib.hid hT
        have HS := Lib.hid hS
        have HN := Lib.hid hN
        have HM := Lib.hid hM
        clear hT hS hN hM
        go_wp2_with (first
          | (go_at_call 12; refine (HT.out _).mono ?_; rintro e w2 ⟨rfl, rfl⟩)
          | (go_at_call 13; refine (HS.out _).mono ?_; rintro e w2 ⟨rfl, rfl⟩))
        refine wp_region_calm (by kernel_rfl) (by kernel_rfl) ?_
        repeat (go_big_quiet_step (first
          | (go_at_call 14; with_reducible exact calm_of _ (HN.out _))
          | (go_at_call 15; with_reducible exact calm_of _ (HM.out _))))
        refine wpQuiet_nil ?_
        intro _ hw'
        obtain ⟨u, rfl⟩ := hw'
        have HU := hA.below u.below
        clear hk0 hk1 hA
        go_wp2
        go_roundw
        case rel => exact ⟨k + 1, by omega, by go_num, HU⟩
        case measure => simp [intOf]; omega
    · obtain rfl : k = n := by omega
      go_wp2_with (go_at_call 6; refine (law7_awake w _ hA).mono ?_; rintro e w' ⟨rfl, hb⟩)
      all_goals go_ret
      all_goals exact ⟨rfl, by assumption⟩

theorem lifted (os : Os) (started : os.Started) (H : Type) (enc : TypeId × Value → H) :
    ReturnsInHanded {} Try.checked os 3 .any (Rows.codeSaysSpec.pre6 enc Try.prog Try.f3 Rows.codeSaysRow.domain false) (Rows.codeSaysSpec.post enc Try.prog Try.f3 false true false false) := by
  refine law_lift started (by kernel_rfl) Try.func3 rfl rfl ?_ (by kernel_rfl)
    (ChangeSpec.witness6 (enc := enc) (C := Try.checked) false ⟨#[], #[.slice none 0 0, .slice none 0 0, .string ⟨#[]⟩], []⟩ 8 (by kernel_rfl) (by kernel_rfl) (by kernel_rfl) (by kernel_rfl)) ?_
  · intro ds hl
    match ds, hl with
    | [_, _, _], _ => exact ⟨rfl, rfl, rfl⟩
  · intro W base args ds p hval hA hlt hwt
    rw [Try.params3] at hA hval hwt
    obtain ⟨v0, vs0, d0, ds0, p0, q0, hargs, rfl, rfl, h0, r0⟩ := trodAll_cons hA
    obtain ⟨v1, vs1, d1, ds1, p1, q1, rfl, rfl, rfl, h1, r1⟩ := trodAll_cons r0
    obtain ⟨v2, vs2, d2, ds2, p2, q2, rfl, rfl, rfl, h2, r2⟩ := trodAll_cons r1
    obtain ⟨rfl, rfl, rfl⟩ := trodAll_nil r2
    obtain rfl : args = #[v0, v1, v2] := by cases args; simp_all
    have wt0 : ∀ n ∈ d0.weights Try.prog 22, n ≤ reachBytes := fun n hn => by
      have := List.all_eq_true.1 hwt n (DataW.weights_mem_each (j := 0) (t := 22) (d := d0) rfl rfl n hn)
      simpa using this
    have lt0 : ∀ x ∈ p0, x.block < W.heap.size := fun x hx => hlt x (by simp [hx])
    obtain ⟨A0, n0, c0, xs0, rfl, hi0, hc0, hr0, w0⟩ := open_ints_arg Try.underlying22 Try.underlying3 (by kernel_rfl) (by kernel_rfl) (hval 0 22 v0 rfl rfl) h0 lt0 wt0
    have wt1 : ∀ n ∈ d1.weights Try.prog 22, n ≤ reachBytes := fun n hn => by
      have := List.all_eq_true.1 hwt n (DataW.weights_mem_each (j := 1) (t := 22) (d := d1) rfl rfl n hn)
      simpa using this
    have lt1 : ∀ x ∈ p1, x.block < W.heap.size := fun x hx => hlt x (by simp [hx])
    obtain ⟨A1, n1, c1, xs1, rfl, hi1, hc1, hr1, w1⟩ := open_ints_arg Try.underlying22 Try.underlying3 (by kernel_rfl) (by kernel_rfl) (hval 1 22 v1 rfl rfl) h1 lt1 wt1
    obtain ⟨a2, rfl, rfl, rfl, w2⟩ := Go.ChangeMaps.open_string Try.underlying9 (hval 2 9 v2 rfl rfl) h2
    exact walk W A0 n0 c0 xs0 hi0 hc0 hr0 w0 A1 n1 c1 xs1 hi1 hc1 hr1 w1 a2 w2

theorem over : Rows.codeSaysRow.holds Try.pinned (OpenSpec.ofChange Rows.codeSaysSpec) :=
  OpenClaim.holds_of_wide 3 Try.f3 rfl rfl rfl rfl rfl rfl rfl ⟨rfl, rfl, rfl, rfl, rfl⟩ rfl rfl rfl rfl rfl (by kernel_rfl) Try.func3 (by kernel_rfl)
    (of_decide_eq_true (by kernel_rfl)) (by unfold Func.isWrapper; first | (rw [if_pos (by decide +kernel)]; kernel_rfl) | (rw [if_neg (by decide +kernel)]; exact ⟨rfl, rfl⟩))
    (fun os started H enc _ => lifted os started H enc)

theorem proved : Rows.CodeSaysSaid := over
#print axioms proved
end Go.Proofs.Ytfgdbgpfmkhooaa.codeSays
