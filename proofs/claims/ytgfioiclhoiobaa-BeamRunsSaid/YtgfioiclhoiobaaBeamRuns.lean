/- BeamRuns holds of every list of ticks: the run is how many ticks were shaded side by side, up to the last one. No condition. -/
import Derived.Test.YtgfioiclhoiobaaLaw20
namespace Go.Proofs.Ytgfioiclhoiobaa.beamRuns
open Go.ChangeShapes Go.WideShapes Go.ChangeAt Go.RowKit
set_option linter.unusedVariables false

set_option maxRecDepth 100000 in
set_option maxHeartbeats 4000000 in
theorem some_ (W : World) (A : Option Addr) (n c : Nat) (ps : List Bool) (hi : Truths W A n ps) (hn : n ≤ 100) (hc : n ≤ c) :
    Calls Try.prog 4 #[.slice A n c] W fun e W' => e = .returned (.bool true) ∧ Below W.heap.size W W' := by
  have HI := Lib.hid hi
  have t1 : decide (100 < (n : Int)) = false := decide_eq_false (by omega)
  have hA := At.refl W
  clear hi
  go_enter Try.func4, Try.ntmps4
  go_wp2
  go_loopw [3, 4, 13] (fun r s i wr => ∃ j : Nat, j ≤ n ∧ i = .int .i64 j ∧ r = .int .i64 (rnK ps j) ∧ s = .bool (strB ps j) ∧ At W wr) (fun _ _ i _ => n - (intOf i).toNat)
  case atStart => exact ⟨0, Nat.zero_le _, rfl, rfl, by rw [str_short ps (by omega)], hA⟩
  case round =>
    clear hA
    obtain ⟨j, hj, rfl, rfl, rfl, hA⟩ := hrel
    by_cases hlt : j < n
    · obtain ⟨b, off, rfl, hbs, hck⟩ := (HI.out.below hA).at_ hlt
      have HS := Lib.hid (show ∀ w, Calls Try.prog 7 #[.int .i64 (rnK ps j), .bool (ps.getD j false)] w fun e w' => e = .returned (.int .i64 (rnK ps (j + 1))) ∧ w = w' from fun w => bm_step _ _ w)
      have hle := rn_le ps (j + 1)
      have ⟨r0, _⟩ := rn_bd ps (j + 1)
      have HN := Lib.hid (str_next ps j)
      have HG := Lib.hid (fun q => rn_go (ps := ps) (i := j) (q := q) (by omega))
      have HE := Lib.hid (fun q => rn_ends (ps := ps) (i := j) (q := q) (by omega))
      have HF := Lib.hid (show ∀ w, At W w → Calls Try.prog 9 #[.slice (some ⟨b, off, none⟩) (j + 1) c] w fun e w' => e = .returned (.bool (strB ps (j + 1))) ∧ At W w' from fun w h => by
        have := l20_stream (c := c) W w (HI.out.first (m := j + 1) (by omega)) (by omega) h
        rwa [str_same (ps := ps.take (j + 1)) (qs := ps) (n := j + 1) (fun i hi => by simp [List.getD, List.getElem?_take_of_lt hi])] at this)
      have HD := Lib.hid (show 11 ≤ j → ∀ w, At W w → Calls Try.prog 9 #[.slice (some ⟨b, off + (j - 11), none⟩) (j + 1 - (j - 11)) (c - (j - 11))] w fun e w' => e = .returned (.bool (decide (12 ≤ rnK ps (j + 1)))) ∧ At W w' from fun h11 w h => by
        rw [show j + 1 - (j - 11) = 12 by omega]
        have := l20_stream (c := c - (j - 11)) W w (HI.out.cut (k := j - 11) (m := 12) (by omega)) (by omega) h
        rwa [str_window (ps := ps) (i := j) h11 (by omega) (fun d hd => by simp [List.getD, List.getElem?_take_of_lt hd])] at this)
      have HX := Lib.hid (fun h => str_short ps (n := j + 1) h)
      have HY := Lib.hid (fun h => str_short ps (n := j) h)
      obtain ⟨R, hR⟩ : ∃ R, rnK ps (j + 1) = R := ⟨_, rfl⟩
      rw [hR] at HS HN HD hle r0
      have HR := Lib.hid hR
      obtain ⟨S0, hS⟩ : ∃ S0, strB ps j = S0 := ⟨_, rfl⟩
      obtain ⟨S1, hS1⟩ : ∃ S1, strB ps (j + 1) = S1 := ⟨_, rfl⟩
      rw [hS, hS1] at HN
      rw [hS] at HY
      rw [hS1] at HX HF
      have HS1 := Lib.hid hS1
      have HC := Lib.hid (show ∀ q : Nat, q ≤ j → wr.cell? ⟨b, off + (j - q), none⟩ = some (.bool (ps.getD (j - q) false)) from fun q hq => by
        obtain ⟨b', off', e, _, h⟩ := (HI.out.below hA).at_ (show j - q < n by omega)
        cases e
        exact h)
      rw [hR] at HG HE
      clear hS1 hR
      simp only [hS]
      clear hS
      generalize ps.getD j false = x at *
      generalize rnK ps j = r0' at *
      go_wp2_with (go_at_call 7; refine (HS.out _).mono ?_; rintro e w' ⟨rfl, rfl⟩)
      go_loop [6] (fun v => ∃ q : Nat, (q : Int) ≤ R ∧ v = .int .i64 q) (fun v => j + 2 - (intOf v).toNat)
      case atStart => exact ⟨0, by omega, rfl⟩
      case round =>
        obtain ⟨q, hq, rfl⟩ := hrel
        by_cases hqr : (q : Int) < R
        · obtain ⟨h1, h2⟩ := HG.out q hqr
          have hcq := HC.out q h1
          rw [h2] at hcq
          have u1 : decide ((q : Int) ≤ (j : Int)) = true := decide_eq_true (by omega)
          have u2 : decide (q ≤ j) = true := decide_eq_true h1
          clear hck h2
          go_wp2
          go_round
          case rel => exact ⟨q + 1, by omega, by go_num⟩
          case measure => simp [intOf]; omega
        · obtain rfl : R = (q : Int) := by omega
          have HQ : Hid ((q ≤ j ∧ wr.cell? ⟨b, off + (j - q), none⟩ = some (.bool false)) ∨ ¬ q ≤ j) := by
            by_cases h : q ≤ j
            · exact .inl ⟨h, by rw [HC.out q h, HE.out q rfl h]⟩
            · exact .inr h
          have v1 : ((q : Int) != (q : Int)) = false := by simp
          clear hqr hq hck
          by_cases h11 : j < 11
          · obtain rfl : S0 = false := HY.out (by omega)
            obtain rfl : S1 = false := HX.out (by omega)
            have v2 : decide (12 ≤ (q : Int)) = false := decide_eq_false (by omega)
            rcases HQ.out with ⟨h1, hcq⟩ | h1
            · have u1 : decide ((q : Int) ≤ (j : Int)) = true := decide_eq_true (by omega)
              have u2 : decide (q ≤ j) = true := decide_eq_true h1
              go_wp2_with (go_at_call 9; refine (HF.out _ (by assumption)).mono ?_; rintro e w' ⟨rfl, hA2⟩)
              go_roundw
              case rel => exact ⟨j + 1, by omega, by go_num, by rw [HR.out], by rw [HS1.out], hA2⟩
              case measure => simp [intOf]; omega
            · have u1 : decide ((q : Int) ≤ (j : Int)) = false := decide_eq_false (by omega)
              have u2 : decide (q ≤ j) = false := decide_eq_false h1
              go_wp2_with (go_at_call 9; refine (HF.out _ (by assumption)).mono ?_; rintro e w' ⟨rfl, hA2⟩)
              go_roundw
              case rel => exact ⟨j + 1, by omega, by go_num, by rw [HR.out], by rw [HS1.out], hA2⟩
              case measure => simp [intOf]; omega
          · have HD2 := Lib.hid (HD.out (by omega))
            obtain ⟨D, hD⟩ : ∃ D, decide (12 ≤ (q : Int)) = D := ⟨_, rfl⟩
            rw [hD] at HN HD2
            have hn1 := HN.out
            cases S0 <;> cases D <;> simp at hn1
            all_goals
              subst hn1
              rcases HQ.out with ⟨h1, hcq⟩ | h1
              · have u1 : decide ((q : Int) ≤ (j : Int)) = true := decide_eq_true (by omega)
                have u2 : decide (q ≤ j) = true := decide_eq_true h1
                go_wp2_with (first
                  | (go_at_call 9; ((with_reducible refine (HF.out _ (by assumption)).mono ?_); rintro e w' ⟨rfl, hA2⟩))
                  | (go_at_call 9; ((with_reducible refine (HD2.out _ (by assumption)).mono ?_); rintro e w' ⟨rfl, hA3⟩)))
                go_roundw
                case rel => exact ⟨j + 1, by omega, by go_num, by rw [HR.out], by rw [HS1.out], hA2⟩
                case measure => simp [intOf]; omega
              · have u1 : decide ((q : Int) ≤ (j : Int)) = false := decide_eq_false (by omega)
                have u2 : decide (q ≤ j) = false := decide_eq_false h1
                go_wp2_with (first
                  | (go_at_call 9; ((with_reducible refine (HF.out _ (by assumption)).mono ?_); rintro e w' ⟨rfl, hA2⟩))
                  | (go_at_call 9; ((with_reducible refine (HD2.out _ (by assumption)).mono ?_); rintro e w' ⟨rfl, hA3⟩)))
                go_roundw
                case rel => exact ⟨j + 1, by omega, by go_num, by rw [HR.out], by rw [HS1.out], hA2⟩
                case measure => simp [intOf]; omega
    · obtain rfl : j = n := by omega
      go_wp2_with (go_at_call 6; refine (law20_awake _).mono ?_; rintro e w' ⟨rfl, hb⟩)
      all_goals go_ret
      all_goals exact ⟨rfl, At.below hA hb⟩

theorem walk (W : World) (A : Option Addr) (n c : Nat) (rs : List (List Value)) (hi : Rows [.bool] W A n rs) (hc : n ≤ c) (hr : n * 1 ≤ 140737488351232) :
    Calls Try.prog 4 #[.slice A n c] W fun e W' => e = .returned (.bool true) ∧ Below W.heap.size W W' := by
  by_cases h : 100 < n
  · have t1 : decide (100 < (n : Int)) = true := decide_eq_true (by omega)
    clear hi
    go_enter Try.func4, Try.ntmps4
    go_wp2_with (go_at_call 6; refine (law20_awake _).mono ?_; rintro e w' ⟨rfl, hb⟩)
    all_goals go_ret
    all_goals exact ⟨rfl, hb⟩
  · obtain ⟨ps, hp⟩ := Truths.of_rows hi
    exact some_ W A n c ps hp (by omega) hc

theorem lifted (os : Os) (started : os.Started) (H : Type) (enc : TypeId × Value → H) :
    ReturnsInHanded {} Try.checked os 4 .any (Rows.beamRunsSpec.pre6 enc Try.prog Try.f4 Rows.beamRunsRow.domain false) (Rows.beamRunsSpec.post enc Try.prog Try.f4 false true false false) := by
  refine law_lift started (by kernel_rfl) Try.func4 rfl rfl ?_ (by kernel_rfl)
    (ChangeSpec.witness6 (enc := enc) (C := Try.checked) false ⟨#[], #[.slice none 0 0], []⟩ 8 (by kernel_rfl) (by kernel_rfl) (by kernel_rfl) (by kernel_rfl)) ?_
  · intro ds hl
    match ds, hl with
    | [_], _ => exact ⟨rfl, rfl, rfl⟩
  · intro W base args ds p hval hA hlt hwt
    rw [Try.params4] at hA hval hwt
    obtain ⟨v0, vs0, d0, ds0, p0, q0, hargs, rfl, rfl, h0, r0⟩ := trodAll_cons hA
    obtain ⟨rfl, rfl, rfl⟩ := trodAll_nil r0
    obtain rfl : args = #[v0] := by cases args; simp_all
    have wt0 : ∀ n ∈ d0.weights Try.prog 22, n ≤ reachBytes := fun n hn => by
      have := List.all_eq_true.1 hwt n (DataW.weights_mem_each (j := 0) (t := 22) (d := d0) rfl rfl n hn)
      simpa using this
    have lt0 : ∀ x ∈ p0, x.block < W.heap.size := fun x hx => hlt x (by simp [hx])
    obtain ⟨A0, n0, c0, xs0, rfl, hi0, hc0, hr0⟩ := open_rows_arg 5 [.bool] Try.underlying22 (by kernel_rfl) (by kernel_rfl) (by decide) (by kernel_rfl) (hval 0 22 v0 rfl rfl) h0 lt0 wt0
    exact walk W A0 n0 c0 xs0 hi0 hc0 hr0

theorem over : Rows.beamRunsRow.holds Try.pinned (OpenSpec.ofChange Rows.beamRunsSpec) :=
  OpenClaim.holds_of_wide 4 Try.f4 rfl rfl rfl rfl rfl rfl rfl ⟨rfl, rfl, rfl, rfl, rfl⟩ rfl rfl rfl rfl rfl (by kernel_rfl) Try.func4 (by kernel_rfl)
    (of_decide_eq_true (by kernel_rfl)) (by unfold Func.isWrapper; first | (rw [if_pos (by decide +kernel)]; kernel_rfl) | (rw [if_neg (by decide +kernel)]; exact ⟨rfl, rfl⟩))
    (fun os started H enc _ => lifted os started H enc)

theorem proved : Rows.BeamRunsSaid := over
#print axioms proved
end Go.Proofs.Ytgfioiclhoiobaa.beamRuns
