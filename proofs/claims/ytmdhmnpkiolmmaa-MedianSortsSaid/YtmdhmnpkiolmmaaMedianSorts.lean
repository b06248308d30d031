/- MedianSorts holds of every list of numbers: sorted numbers rise, and are all there, as often as they were. No condition. -/
import Derived.Test.YtmdhmnpkiolmmaaLaw8
namespace Go.Proofs.Ytmdhmnpkiolmmaa.medianSorts
open Go.ChangeShapes Go.WideShapes Go.ChangeAt Go.RowKit
set_option linter.unusedVariables false

/-- How often y is among the first k. -/
def cnt (xs : List Int) (y : Int) (k : Nat) : Int := ((xs.take k).count y : Nat)
theorem cnt_step (xs : List Int) (y : Int) (k : Nat) (h : k < xs.length) : cnt xs y (k + 1) = cnt xs y k + if xs.getD k 0 = y then 1 else 0 := by
  unfold cnt
  rw [List.take_succ_eq_append_getElem h, List.count_append, List.count_singleton]
  simp only [List.getD, List.getElem?_eq_getElem h, Option.getD_some]
  by_cases e : xs[k] = y <;> simp [e]
theorem cnt_bd (xs : List Int) (y : Int) (k : Nat) : 0 ≤ cnt xs y k ∧ cnt xs y k ≤ k := by
  unfold cnt
  have := List.count_le_length (a := y) (l := xs.take k)
  have := List.length_take_le k xs
  omega
theorem cnt_all (xs : List Int) (y : Int) (n : Nat) (h : xs.length = n) : cnt xs y n = cnt (sortL xs) y n := by
  unfold cnt
  rw [List.take_of_length_le (by omega), List.take_of_length_le (by rw [sortL_len]; omega), (sortL_perm xs).count_eq]

set_option maxRecDepth 100000 in
set_option maxHeartbeats 2000000 in
theorem walk (w : World) (A : Option Addr) (n c : Nat) (xs : List Int) (hi : Ints w A n xs) (hc : n ≤ c) (hr : n * 8 ≤ 140737488351232) (wx : ∀ x ∈ xs, (Lit.int .i64 x).wf = true) :
    Calls Try.prog 4 #[.slice A n c] w fun e w' => e = .returned (.bool true) ∧ Below w.heap.size w w' := by
  clear wx
  have hA := At.refl w
  by_cases hn : 60 < n
  · clear hi
    go_enter Try.func4, Try.ntmps4
    go_wp2_with (go_at_call 7; refine (law8_awake w _ hA).mono ?_; rintro e w' ⟨rfl, hb⟩)
    all_goals go_ret
    all_goals exact ⟨rfl, by assumption⟩
  · have HI := Lib.hid hi
    have HL := Lib.hid hi.1
    have h5 := fun (w' : World) (h : At w w') => median_sort A n c xs w' (HI.out.below h) hc hr
    have LS := Lib.hid ((sortL_len xs).trans hi.1)
    have HU := Lib.hid (sortL_up xs)
    have HC := Lib.hid (fun y => cnt_all xs y n HL.out)
    have e1 := eqL_refl xs
    clear hi
    generalize sortL xs = S at *
    have H5 := Lib.hid h5
    clear h5
    go_enter Try.func4, Try.ntmps4
    go_wp2_with (at_builtin; refine app_ints rfl _ _ rfl rfl rfl HI.out (World.ownsRow_nil _ w.heap.size _ _) (Nat.le_refl _) (by omega) ?_)
    intro v1 w1 ho1 hg1
    obtain ⟨R, dr, rfl, _⟩ := own_form ho1
    have hi1 : Ints w1 R n xs := Ints.of_own ho1 HL.out
    have A1 : At w w1 := (Below.refl _ _).grown hg1 (Nat.le_refl _) (fun k hk => by cases hk)
    have I1 := Lib.hid hi1
    clear ho1 hg1 hi1
    go_wp2_with (first
      | (go_at_call 13; refine (H5.out _ A1).mono ?_; rintro e w5 ho5; obtain ⟨B5, d5, rfl, _, i5, b5⟩ := ho5.own.new; rw [LS.out]; rw [LS.out] at i5; have A5 := A1.below b5; have I5 := Lib.hid i5; have J1 := Lib.hid (I1.out.below b5); clear i5 ho5 b5)
      | (go_at_call 12; refine (l4_ints w _ _ _ _ _ _ xs xs _ A5 (HI.out.below A5) J1.out (by omega) (by omega)).mono ?_; rintro e w6 ⟨rfl, B6, A6⟩; have I6 := Lib.hid (I5.out.below B6)))
    have HI6 := Lib.hid (HI.out.below A6)
    clear H5 I5 J1 I1 A5 A1 B6
    go_loopw [31] (fun i wr => ∃ j q : Nat, j ≤ n ∧ i = .int .i64 j ∧ wr = w6.drewN q) (fun i _ => n - (intOf i).toNat)
    case atStart => exact ⟨0, 0, Nat.zero_le _, rfl, rfl⟩
    case round =>
      obtain ⟨j, q, hj, rfl, rfl⟩ := hrel
      by_cases hlt : j < n
      · obtain ⟨b2, o2, rfl, _, hcS⟩ := I6.out.2 (by omega)
        obtain ⟨b1, o1, rfl, _, hcX⟩ := HI6.out.2 (by omega)
        have hcj := hcS j hlt
        have KS := Lib.hid hcS
        have KX := Lib.hid hcX
        obtain ⟨y, hy⟩ : ∃ y, S.getD j 0 = y := ⟨_, rfl⟩
        rw [hy] at hcj
        have KY := Lib.hid hy
        clear hcS hcX hy
        go_wp2
        go_loopw [6, 7, 36] (fun a b i wr => ∃ k q2 : Nat, k ≤ n ∧ a = .int .i64 (cnt xs y k) ∧ b = .int .i64 (cnt S y k) ∧ i = .int .i64 k ∧ wr = w6.drewN q2) (fun _ _ i _ => n - (intOf i).toNat)
        case atStart => exact ⟨0, q, Nat.zero_le _, rfl, rfl, rfl, rfl⟩
        case round =>
          obtain ⟨k, q2, hk, rfl, rfl, rfl, rfl⟩ := hrel
          by_cases hkn : k < n
          · have hx := KX.out k hkn
            have hs := KS.out k hkn
            have ⟨c0, c1⟩ := cnt_bd xs y k
            have ⟨d0, d1⟩ := cnt_bd S y k
            have st1 := Lib.hid (cnt_step xs y k (by have := HL.out; omega))
            have st2 := Lib.hid (cnt_step S y k (by have := LS.out; omega))
            generalize cnt xs y k = a at *
            generalize cnt S y k = b at *
            generalize xs.getD k 0 = x at *
            generalize S.getD k 0 = z at *
            by_cases hxy : x = y <;> by_cases hzy : z = y
            · have t1 : (x == y) = true := by simpa using hxy
              have t2 : (z == y) = true := by simpa using hzy
              have f1 := st1.out
              have f2 := st2.out
              rw [if_pos hxy] at f1
              rw [if_pos hzy] at f2
              have F1 := Lib.hid f1
              have F2 := Lib.hid f2
              clear hxy hzy f1 f2 st1 st2
              go_wp2
              go_quiet (fail)
              go_wp2
              go_quiet (fail)
              go_wp2
              go_roundw
              case rel => exact ⟨k + 1, _, by omega, by rw [F1.out], by rw [F2.out], by go_num, rfl⟩
              case measure => simp [intOf]; omega
            · have t1 : (x == y) = true := by simpa using hxy
              have t2 : (z == y) = false := by simpa using hzy
              have f1 := st1.out
              have f2 := st2.out
              rw [if_pos hxy] at f1
              rw [if_neg hzy, Int.add_zero] at f2
              have F1 := Lib.hid f1
              have F2 := Lib.hid f2
              clear hxy hzy f1 f2 st1 st2
              go_wp2
              go_quiet (fail)
              go_wp2
              go_quiet (fail)
              go_wp2
              go_roundw
              case rel => exact ⟨k + 1, _, by omega, by rw [F1.out], by rw [F2.out], by go_num, rfl⟩
              case measure => simp [intOf]; omega
            · have t1 : (x == y) = false := by simpa using hxy
              have t2 : (z == y) = true := by simpa using hzy
              have f1 := st1.out
              have f2 := st2.out
              rw [if_neg hxy, Int.add_zero] at f1
              rw [if_pos hzy] at f2
              have F1 := Lib.hid f1
              have F2 := Lib.hid f2
              clear hxy hzy f1 f2 st1 st2
              go_wp2
              go_quiet (fail)
              go_wp2
              go_quiet (fail)
              go_wp2
              go_roundw
              case rel => exact ⟨k + 1, _, by omega, by rw [F1.out], by rw [F2.out], by go_num, rfl⟩
              case measure => simp [intOf]; omega
            · have t1 : (x == y) = false := by simpa using hxy
              have t2 : (z == y) = false := by simpa using hzy
              have f1 := st1.out
              have f2 := st2.out
              rw [if_neg hxy, Int.add_zero] at f1
              rw [if_neg hzy, Int.add_zero] at f2
              have F1 := Lib.hid f1
              have F2 := Lib.hid f2
              clear hxy hzy f1 f2 st1 st2
              go_wp2
              go_quiet (fail)
              go_wp2
              go_quiet (fail)
              go_wp2
              go_roundw
              case rel => exact ⟨k + 1, _, by omega, by rw [F1.out], by rw [F2.out], by go_num, rfl⟩
              case measure => simp [intOf]; omega
          · obtain rfl : k = n := by omega
            have hcc := HC.out y
            rw [hcc]
            generalize cnt S y k = a at *
            have ta : (a != a) = false := by simp
            clear hcc
            obtain rfl | ⟨p, rfl⟩ : j = 0 ∨ ∃ p, j = p + 1 := by
              rcases Nat.eq_zero_or_pos j with h | h
              · exact .inl h
              · exact .inr ⟨j - 1, by omega⟩
            · go_wp2
              go_quiet (fail)
              go_wp2
              go_roundw
              case rel => exact ⟨1, _, by omega, by go_num, rfl⟩
              case measure => simp [intOf]; omega
            · have hcp := KS.out p (by omega)
              have hle := up_le HU.out (i := p) (j := p + 1) (by omega) (by have := LS.out; omega)
              rw [KY.out] at hle
              generalize S.getD p 0 = z at *
              have tz : decide (y < z) = false := by simp; omega
              go_wp2
              go_quiet (fail)
              go_wp2
              go_roundw
              case rel => exact ⟨p + 1 + 1, _, by omega, by go_num, rfl⟩
              case measure => simp [intOf]; omega
      · obtain rfl : j = n := by omega
        go_wp2_with (go_at_call 7; refine (law8_awake w _ (A6.draws q)).mono ?_; rintro e w' ⟨rfl, hb⟩)
        all_goals go_ret
        all_goals exact ⟨rfl, by assumption⟩

theorem lifted (os : Os) (started : os.Started) (H : Type) (enc : TypeId × Value → H) :
    ReturnsInHanded {} Try.checked os 4 .any (Rows.medianSortsSpec.pre6 enc Try.prog Try.f4 Rows.medianSortsRow.domain false) (Rows.medianSortsSpec.post enc Try.prog Try.f4 false true false false) := by
  refine law_lift started (by kernel_rfl) Try.func4 rfl rfl ?_ (by kernel_rfl)
    (ChangeSpec.witness6 (enc := enc) (C := Try.checked) false ⟨#[], #[.slice none 0 0], []⟩ 8 (by kernel_rfl) (by kernel_rfl) (by kernel_rfl) (by kernel_rfl)) ?_
  · intro ds hl
    match ds, hl with
    | [_], _ => exact ⟨rfl, rfl, rfl⟩
  · intro W base args ds p hval hA hlt hwt
    rw [Try.params4] at hA hval hwt
    obtain ⟨v0, vs0, d0, ds0, p0, q0, hargs, rfl, rfl, h0, r0⟩ := trodAll_cons hA
    obtain ⟨rfl, rfl, rfl⟩ := trodAll_nil r0
    obtain rfl : args = #[v0] := by cases args; simp_all
    have wt0 : ∀ n ∈ d0.weights Try.prog 22, n ≤ reachBytes := fun n hn => by
      have := List.all_eq_true.1 hwt n (DataW.weights_mem_each (j := 0) (t := 22) (d := d0) rfl rfl n hn)
      simpa using this
    have lt0 : ∀ x ∈ p0, x.block < W.heap.size := fun x hx => hlt x (by simp [hx])
    obtain ⟨A0, n0, c0, xs0, rfl, hi0, hc0, hr0, w0⟩ := open_ints_arg Try.underlying22 Try.underlying3 (by kernel_rfl) (by kernel_rfl) (hval 0 22 v0 rfl rfl) h0 lt0 wt0
    exact walk W A0 n0 c0 xs0 hi0 hc0 hr0 w0

theorem over : Rows.medianSortsRow.holds Try.pinned (OpenSpec.ofChange Rows.medianSortsSpec) :=
  OpenClaim.holds_of_wide 4 Try.f4 rfl rfl rfl rfl rfl rfl rfl ⟨rfl, rfl, rfl, rfl, rfl⟩ rfl rfl rfl rfl rfl (by kernel_rfl) Try.func4 (by kernel_rfl)
    (of_decide_eq_true (by kernel_rfl)) (by unfold Func.isWrapper; first | (rw [if_pos (by decide +kernel)]; kernel_rfl) | (rw [if_neg (by decide +kernel)]; exact ⟨rfl, rfl⟩))
    (fun os started H enc _ => lifted os started H enc)

theorem proved : Rows.MedianSortsSaid := over
#print axioms proved
end Go.Proofs.Ytmdhmnpkiolmmaa.medianSorts
