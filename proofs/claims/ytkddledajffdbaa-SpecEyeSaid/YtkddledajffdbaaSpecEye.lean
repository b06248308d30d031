/- SpecEye holds of every list of lights: the eye's drops and shades are those that spec tells. No condition. -/
import Derived.Test.YtkddledajffdbaaLaw23
namespace Go.Proofs.Ytkddledajffdbaa.specEye
open Go.ChangeShapes Go.WideShapes Go.ChangeAt Go.RowKit
set_option linter.unusedVariables false
set_option linter.unusedSimpArgs false
set_option maxRecDepth 100000
attribute [local go_sem] cell_set_ite Near.cell Near.frozen

theorem drops_split (xs : List Int) (k : Nat) : ∀ n, k ≤ n → ∃ r, dropsL xs n = dropsL xs k ++ r ∧ ∀ x ∈ r, (k : Int) ≤ x
  | 0, h => by
    obtain rfl : k = 0 := by omega
    exact ⟨[], by simp, by simp⟩
  | n + 1, h => by
    by_cases e : k = n + 1
    · subst e; exact ⟨[], by simp, by simp⟩
    · obtain ⟨r, h1, h2⟩ := drops_split xs k n (by omega)
      cases hd : gzD (gzAt xs n) (xs.getD n 0)
      · exact ⟨r, by rw [drops_no hd, h1], h2⟩
      · refine ⟨r ++ [(n : Int)], by rw [drops_yes hd, h1, List.append_assoc], fun x hx => ?_⟩
        rcases List.mem_append.1 hx with hx | hx
        · exact h2 x hx
        · rw [List.mem_singleton] at hx; omega
theorem next_yes {xs : List Int} {k n : Nat} (hk : k < n) (h : gzD (gzAt xs k) (xs.getD k 0) = true) : (dropsL xs k).length < (dropsL xs n).length ∧ (dropsL xs n).getD (dropsL xs k).length 0 = k := by
  obtain ⟨r, h1, _⟩ := drops_split xs (k + 1) n hk
  rw [drops_yes h] at h1
  rw [h1]
  refine ⟨by simp, ?_⟩
  simp [List.getD]
theorem next_no {xs : List Int} {k n : Nat} (hk : k < n) (h : gzD (gzAt xs k) (xs.getD k 0) = false) (hl : (dropsL xs k).length < (dropsL xs n).length) : (dropsL xs n).getD (dropsL xs k).length 0 ≠ k := by
  obtain ⟨r, h1, h2⟩ := drops_split xs (k + 1) n hk
  rw [drops_no h] at h1
  rw [h1] at hl ⊢
  rw [List.length_append] at hl
  have hr : 0 < r.length := by omega
  have e : (dropsL xs k ++ r).getD (dropsL xs k).length 0 = r[0] := by
    simp [List.getD, List.getElem?_append_right (Nat.le_refl _), hr]
  rw [e]
  have := h2 r[0] (List.getElem_mem hr)
  omega

set_option maxHeartbeats 4000000 in
theorem walk (w : World) (A : Option Addr) (n c : Nat) (xs : List Int) (hi : Ints w A n xs) (hc : n ≤ c) (hr : n * 8 ≤ 140737488351232) (wx : ∀ x ∈ xs, (Lit.int .i64 x).wf = true) :
    Calls Try.prog 8 #[.slice A n c] w fun e w' => e = .returned (.bool true) ∧ Below w.heap.size w w' := by
  by_cases hn : 200 < n
  · have t0 : decide (200 < (n : Int)) = true := decide_eq_true (by omega)
    clear hi
    go_enter Try.func8, Try.ntmps8
    go_wp2_with (go_at_call 18; refine (law23_awake w).mono ?_; rintro e w' ⟨rfl, hb⟩)
    go_ret
    exact ⟨rfl, hb⟩
  · have t0 : decide (200 < (n : Int)) = false := decide_eq_false (by omega)
    have HI := Lib.hid hi
    have HL := Lib.hid (ey_look A n c xs w hi (by omega))
    clear hi wx
    go_enter Try.func8, Try.ntmps8
    go_wp2_with (fail)
    refine HL.out.mono ?_
    rintro e w1 ⟨g, rfl, S, A1⟩
    have HS := Lib.hid S
    clear S HL
    go_wp2_with (fail)
    refine (sp_drops A n c xs w1 (HI.out.below A1) (by omega)).mono ?_
    rintro e w2 ⟨B, d, rfl, hd, hds, hb⟩
    have A2 := below_call A1 hb
    have HS2 := Lib.hid (HS.out.below hb)
    have HD := Lib.hid hds
    clear hb A1 HS hds
    go_wp2_with (fail)
    refine (sp_shades A n c xs w2 (HI.out.below A2) (by omega)).mono ?_
    rintro e w3 ⟨f, rfl, C, hb⟩
    have A3 := below_call A2 hb
    have HS3 := Lib.hid (HS2.out.below hb)
    have HD3 := Lib.hid (HD.out.below hb)
    have HC := Lib.hid C
    have hmn := dropsL_len xs n
    have HM := Lib.hid (show ∀ k, k < n → gzD (gzAt xs k) (xs.getD k 0) = true → (dropsL xs k).length < (dropsL xs n).length ∧ (dropsL xs n).getD (dropsL xs k).length 0 = k from fun k hk h => next_yes hk h)
    have HN := Lib.hid (show ∀ k, k < n → gzD (gzAt xs k) (xs.getD k 0) = false → (dropsL xs k).length < (dropsL xs n).length → (dropsL xs n).getD (dropsL xs k).length 0 ≠ k from fun k hk h hl => next_no hk h hl)
    have HMM := Lib.hid (show (dropsL xs n).length = (dropsL xs n).length from rfl)
    obtain ⟨ds, hds⟩ : ∃ ds, dropsL xs n = ds := ⟨_, rfl⟩
    have HDS := Lib.hid hds
    rw [hds] at HD3 HM HN hmn hd ⊢
    clear hb A2 HS2 HD C hds HMM
    generalize hm : ds.length = m at *
    have Hm := Lib.hid hm
    clear hm
    go_wp2
    go_loopg [6, 33] n (fun gk x i wr => ∃ k : Nat, k ≤ n ∧ gk = n - k ∧ i = .int .i64 k ∧ x = .int .i64 (dropsL xs k).length ∧ Sees wr g n (snB xs) ∧ Ints wr B m ds ∧ Col wr f n (fun i => .bool (shF xs i)) ∧ Below w.heap.size w wr)
    case atStart => exact ⟨0, by omega, rfl, rfl, rfl, HS3.out, HD3.out, HC.out, A3⟩
    case round =>
      clear HS3 HD3 HC A3
      obtain ⟨k, hk, rfl, rfl, rfl, S1, T1, C1, A1⟩ := hrel
      by_cases hlt : k < n
      · have c0 : wr.cell? ⟨g, k * 4, none⟩ = some (.bool (gzD (gzAt xs k) (xs.getD k 0))) := S1.cell k 0 hlt (by omega)
        have c1 : wr.cell? ⟨g, k * 4 + 1, none⟩ = some (.bool (shF xs k)) := S1.cell k 1 hlt (by omega)
        have c2 : wr.cell? ⟨f, k, none⟩ = some (.bool (shF xs k)) := C1.cell k hlt
        have lS := S1.lt
        have lC := C1.lt
        have hq := dropsL_len xs k
        have SH := Lib.hid S1
        have TH := Lib.hid T1
        have CH := Lib.hid C1
        have HY1 := Lib.hid (fun h => drops_yes (xs := xs) (k := k) h)
        have HN1 := Lib.hid (fun h => drops_no (xs := xs) (k := k) h)
        have hy := HM.out k hlt
        have hno := HN.out k hlt
        have hT := T1.2
        clear S1 T1 C1
        generalize gzD (gzAt xs k) (xs.getD k 0) = dr at *
        generalize shF xs k = sh at *
        cases dr
        · have HE := Lib.hid (show (dropsL xs (k + 1)).length = (dropsL xs k).length by rw [HN1.out rfl])
          have hno1 := hno rfl
          clear HY1 HN1 hy hno
          generalize (dropsL xs k).length = q at *
          by_cases hqm : q < m
          · have t1 : decide ((q : Int) < m) = true := decide_eq_true (by omega)
            have t1n : decide (q < m) = true := decide_eq_true hqm
            obtain ⟨b, off, rfl, lB, hcell⟩ := hT (by omega)
            have c3 := hcell q hqm
            have hne := hno1 hqm
            generalize ds.getD q 0 = z at *
            have t2 : (z == (k : Int)) = false := by simpa using hne
            clear hno1 hcell hne hT
            cases sh
            all_goals
              go_wp2
              refine wp_region_calm (by kernel_rfl) (by kernel_rfl) ?_
              repeat (go_big_quiet_step ((fail)))
              refine wpQuiet_nil ?_
              intro _ hw'
              obtain ⟨u, rfl⟩ := hw'
              have S3 := SH.out.below u.below
              have T3 := TH.out.below u.below
              have C3 := CH.out.below u.below
              have A3 := below_call A1 u.below
              clear c3 c0 c1 c2 lS lC lB A1
              generalize u.at_ = w4 at *
              have SH3 := Lib.hid S3
              have TH3 := Lib.hid T3
              have CH3 := Lib.hid C3
              clear S3 T3 C3 SH TH CH
              go_wp2
              go_roundg (n - (k + 1))
              case measure => omega
              case rel => exact ⟨k + 1, by omega, by omega, by go_num, by rw [HE.out], SH3.out, TH3.out, CH3.out, A3⟩
          · have t1 : decide ((q : Int) < m) = false := decide_eq_false (by omega)
            have t1n : decide (q < m) = false := decide_eq_false hqm
            clear hno1 hT
            cases sh
            all_goals
              go_wp2
              refine wp_region_calm (by kernel_rfl) (by kernel_rfl) ?_
              repeat (go_big_quiet_step ((fail)))
              refine wpQuiet_nil ?_
              intro _ hw'
              obtain ⟨u, rfl⟩ := hw'
              have S3 := SH.out.below u.below
              have T3 := TH.out.below u.below
              have C3 := CH.out.below u.below
              have A3 := below_call A1 u.below
              clear c0 c1 c2 lS lC A1
              generalize u.at_ = w4 at *
              have SH3 := Lib.hid S3
              have TH3 := Lib.hid T3
              have CH3 := Lib.hid C3
              clear S3 T3 C3 SH TH CH
              go_wp2
              go_roundg (n - (k + 1))
              case measure => omega
              case rel => exact ⟨k + 1, by omega, by omega, by go_num, by rw [HE.out], SH3.out, TH3.out, CH3.out, A3⟩
        · obtain ⟨hqm, hz⟩ := hy rfl
          have HE := Lib.hid (show (dropsL xs (k + 1)).length = (dropsL xs k).length + 1 by rw [HY1.out rfl]; simp)
          clear HY1 HN1 hy hno
          generalize (dropsL xs k).length = q at *
          have t1 : decide ((q : Int) < m) = true := decide_eq_true (by omega)
          have t1n : decide (q < m) = true := decide_eq_true hqm
          obtain ⟨b, off, rfl, lB, hcell⟩ := hT (by omega)
          have c3 := hcell q hqm
          rw [hz] at c3
          clear hcell hz hT
          cases sh
          all_goals
            go_wp2
            refine wp_region_calm (by kernel_rfl) (by kernel_rfl) ?_
            repeat (go_big_quiet_step ((fail)))
            refine wpQuiet_nil ?_
            intro _ hw'
            obtain ⟨u, rfl⟩ := hw'
            have S3 := SH.out.below u.below
            have T3 := TH.out.below u.below
            have C3 := CH.out.below u.below
            have A3 := below_call A1 u.below
            clear c3 c0 c1 c2 lS lC lB A1
            generalize u.at_ = w4 at *
            have SH3 := Lib.hid S3
            have TH3 := Lib.hid T3
            have CH3 := Lib.hid C3
            clear S3 T3 C3 SH TH CH
            go_wp2
            go_roundg (n - (k + 1))
            case measure => omega
            case rel => exact ⟨k + 1, by omega, by omega, by go_num, by rw [HE.out]; go_num, SH3.out, TH3.out, CH3.out, A3⟩
      · obtain rfl : k = n := by omega
        rw [HDS.out, Hm.out]
        clear S1 T1 C1 HM HN
        go_wp2_with (go_at_call 18; refine (law23_awake _).mono ?_; rintro e w' ⟨rfl, hb'⟩)
        go_ret
        exact ⟨rfl, below_call A1 hb'⟩

set_option maxRecDepth 100000 in
theorem lifted (os : Os) (started : os.Started) (H : Type) (enc : TypeId × Value → H) :
    ReturnsInHanded {} Try.checked os 8 .any (Rows.specEyeSpec.pre6 enc Try.prog Try.f8 Rows.specEyeRow.domain false) (Rows.specEyeSpec.post enc Try.prog Try.f8 false true false false) := by
  refine law_lift started (by kernel_rfl) Try.func8 rfl rfl ?_ (by kernel_rfl)
    (ChangeSpec.witness6 (enc := enc) (C := Try.checked) false ⟨#[], #[.slice none 0 0], []⟩ 8 (by kernel_rfl) (by kernel_rfl) (by kernel_rfl) (by kernel_rfl)) ?_
  · intro ds hl
    match ds, hl with
    | [_], _ => exact ⟨rfl, rfl, rfl⟩
  · intro W base args ds p hval hA hlt hwt
    rw [Try.params8] at hA hval hwt
    obtain ⟨v0, vs0, d0, ds0, p0, q0, hargs, rfl, rfl, h0, r0⟩ := trodAll_cons hA
    obtain ⟨rfl, rfl, rfl⟩ := trodAll_nil r0
    obtain rfl : args = #[v0] := by cases args; simp_all
    have wt0 : ∀ n ∈ d0.weights Try.prog 28, n ≤ reachBytes := fun n hn => by
      have := List.all_eq_true.1 hwt n (DataW.weights_mem_each (j := 0) (t := 28) (d := d0) rfl rfl n hn)
      simpa using this
    have lt0 : ∀ x ∈ p0, x.block < W.heap.size := fun x hx => hlt x (by simp [hx])
    obtain ⟨A0, n0, c0, xs0, rfl, hi0, hc0, hr0, w0⟩ := open_ints_arg Try.underlying28 Try.underlying3 (by kernel_rfl) (by kernel_rfl) (hval 0 28 v0 rfl rfl) h0 lt0 wt0
    exact walk W A0 n0 c0 xs0 hi0 hc0 hr0 w0

theorem over : Rows.specEyeRow.holds Try.pinned (OpenSpec.ofChange Rows.specEyeSpec) :=
  OpenClaim.holds_of_wide 8 Try.f8 rfl rfl rfl rfl rfl rfl rfl ⟨rfl, rfl, rfl, rfl, rfl⟩ rfl rfl rfl rfl rfl (by kernel_rfl) Try.func8 (by kernel_rfl)
    (of_decide_eq_true (by kernel_rfl)) (by unfold Func.isWrapper; first | (rw [if_pos (by decide +kernel)]; kernel_rfl) | (rw [if_neg (by decide +kernel)]; exact ⟨rfl, rfl⟩))
    (fun os started H enc _ => lifted os started H enc)

theorem proved : Rows.SpecEyeSaid := over
#print axioms proved
end Go.Proofs.Ytkddledajffdbaa.specEye
