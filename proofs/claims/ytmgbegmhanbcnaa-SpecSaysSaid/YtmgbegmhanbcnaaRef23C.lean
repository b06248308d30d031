/- Contracts of the document's spec: drops. -/
import Derived.Test.YtmgbegmhanbcnaaRef23B
namespace Go.Proofs.Ytmgbegmhanbcnaa
open Go.RowKit
set_option linter.unusedVariables false
set_option linter.unusedSimpArgs false
set_option maxRecDepth 100000
attribute [local go_sem] cell_set_ite Near.cell Near.frozen

set_option maxHeartbeats 4000000 in
theorem rs_drops (A : Option Addr) (n c : Nat) (xs : List Int) (w : World) (h : Ints w A n xs) (hn : n ≤ 100000) :
    Calls Try.prog 15 #[.slice A n c] w fun e w' => ∃ B d, e = .returned (.slice B (dropsL xs n).length d) ∧ (dropsL xs n).length ≤ d ∧ Ints w' B (dropsL xs n).length (dropsL xs n) ∧ Below w.heap.size w w' := by
  have H := Lib.hid (rs_shades A n c xs w h hn)
  clear h
  go_enter Try.func15, Try.ntmps15
  go_wp2_with (fail)
  refine H.out.mono ?_
  rintro e w1 ⟨B, d, rfl, hd, C1, A1⟩
  have H2 := Lib.hid (rs_firms B n d (shL xs n) w1 C1 hn)
  clear C1
  go_wp2_with (fail)
  refine H2.out.mono ?_
  rintro e w2 ⟨C, f, rfl, hf, C2, hb⟩
  have A2 := below_call A1 hb
  have HF := Lib.hid C2
  clear A1 hb C2 H H2 hd
  go_wp2
  go_loopg [4, 13] n (fun gk x i wr => ∃ k : Nat, k ≤ n ∧ gk = n - k ∧ i = .int .i64 k ∧ Grown w2 (dropsL xs k) x wr)
  case atStart => exact ⟨0, by omega, rfl, rfl, Grown.nil w2⟩
  case round =>
    obtain ⟨k, hk, rfl, rfl, hd⟩ := hrel
    by_cases hlt : k < n
    · have hdf := drop_form xs k (by omega)
      have hbd := laD_bd xs k
      have hdl := dropsL_len xs k
      obtain ⟨b, off, rfl, lb, hcell⟩ := HF.out.2 (by omega)
      have c0 := (hd.2.2.cell (p := ⟨b, off + k, none⟩) lb).trans (hcell k hlt)
      rw [show ((List.range n).map (fmB (shL xs n))).getD k false = fmB (shL xs n) k by simp [List.getD, hlt], show fmB (shL xs n) k = (gzAt xs (k + 1)).on from firm_on xs n hn k hlt] at c0
      have HY := Lib.hid (fun h => drops_yes (xs := xs) (k := k) h)
      have HN := Lib.hid (fun h => drops_no (xs := xs) (k := k) h)
      have HG := Lib.hid hd
      have HO := Lib.hid hd.2.1
      have hsz := hd.2.2.size
      obtain ⟨B1, d1, rfl, hd1, hints⟩ := hd.form
      have hll : (dropsL xs k).length ≤ 17592186044414 := by omega
      rcases Nat.eq_zero_or_pos k with hk0 | hk0
      · have t1 : ((k : Int) == 0) = true := by simp [hk0]
        have hw0 : (gzAt xs k).on = false := by rw [hk0]; rfl
        have kb : (0 : Int) ≤ (k : Int) ∧ (k : Int) ≤ 100000 := by omega
        clear hcell hd hk0
        obtain ⟨m, hmm⟩ : ∃ m, (dropsL xs k).length = m := ⟨_, rfl⟩
        have HML := Lib.hid hmm
        rw [hmm] at hints HO HG hdl hd1 hll ⊢
        rcases Nat.eq_zero_or_pos m with hm | hm
        · have hr : rsB (dropsL xs k) ((k : Nat) : Int) = false := by
            unfold rsB laD
            rw [if_pos (by omega)]; exact decide_eq_false (by omega)
          rw [hr] at hdf
          obtain rfl : m = 0 := by omega
          clear hm hmm
          clear hints hr
          generalize gzD (gzAt xs k) (xs.getD k 0) = dr at *
          generalize (gzAt xs (k + 1)).on = ON at *
          generalize (gzAt xs k).on = was at *
          cases ON
          · subst hw0
            obtain rfl : dr = false := by rw [hdf]; rfl
            have HE := Lib.hid (HN.out rfl)
            clear hdf HY HN
            go_wp2
            go_roundg (n - (k + 1))
            case measure => omega
            case rel => exact ⟨k + 1, by omega, by omega, by go_num, by rw [HE.out]; exact HG.out⟩
          · subst hw0
            obtain rfl : dr = true := by rw [hdf]; rfl
            have HE := Lib.hid (HY.out rfl)
            clear hdf HY HN
            go_wp2_with (at_builtin; refine app_int rfl _ _ rfl _ rfl rfl HO.out hsz hll ?_)
            intro v' w4 h1 h2
            have HG4 := Lib.hid (HG.out.next (by rw [HML.out]; exact h1) h2)
            clear h1 h2 HG HO
            go_wp2
            go_roundg (n - (k + 1))
            case measure => omega
            case rel => exact ⟨k + 1, by omega, by omega, by go_num, by rw [HE.out]; exact HG4.out⟩
        · obtain ⟨q, rfl⟩ : ∃ q, m = q + 1 := ⟨m - 1, by omega⟩
          obtain ⟨b1, o1, rfl, lb1, hc1⟩ := hints.at_ (k := q) (by omega)
          have hv : laD (dropsL xs k) = (dropsL xs k).getD q 0 := by
            unfold laD
            rw [if_neg (by omega), hmm]; rfl
          rw [hv] at hbd
          have hr : rsB (dropsL xs k) ((k : Nat) : Int) = decide (((k : Nat) : Int) - (dropsL xs k).getD q 0 ≤ 4) := by unfold rsB; rw [hv]
          rw [hr] at hdf
          have t2 : decide ((0 : Int) < (q : Int) + 1) = true := decide_eq_true (by omega)
          have wq : IntKind.i64.wrap ((q : Int) + 1 - 1) = (q : Int) := by rw [IntKind.wrap_i64]; omega
          have wl : IntKind.i64.wrap ((k : Int) - (dropsL xs k).getD q 0) = (k : Int) - (dropsL xs k).getD q 0 := by rw [IntKind.wrap_i64]; omega
          clear hmm hm
          have tc : (((q + 1 : Nat)) : Int) = (q : Int) + 1 := rfl
          rw [tc] at *
          clear hints hr
          generalize gzD (gzAt xs k) (xs.getD k 0) = dr at *
          generalize (gzAt xs (k + 1)).on = ON at *
          generalize (gzAt xs k).on = was at *
          generalize (dropsL xs k).getD q 0 = l at *
          clear hv hbd
          by_cases g1 : (k : Int) - l ≤ 4
          · have t3 : decide ((k : Int) - l ≤ 4) = true := decide_eq_true g1
            rw [t3] at hdf
            clear g1
            cases ON
            · subst hw0
              obtain rfl : dr = false := by rw [hdf]; rfl
              have HE := Lib.hid (HN.out rfl)
              clear hdf HY HN
              go_wp2
              go_roundg (n - (k + 1))
              case measure => omega
              case rel => exact ⟨k + 1, by omega, by omega, by go_num, by rw [HE.out]; exact HG.out⟩
            · subst hw0
              obtain rfl : dr = false := by rw [hdf]; rfl
              have HE := Lib.hid (HN.out rfl)
              clear hdf HY HN
              go_wp2
              go_roundg (n - (k + 1))
              case measure => omega
              case rel => exact ⟨k + 1, by omega, by omega, by go_num, by rw [HE.out]; exact HG.out⟩
          · have t3 : decide ((k : Int) - l ≤ 4) = false := decide_eq_false g1
            rw [t3] at hdf
            clear g1
            cases ON
            · subst hw0
              obtain rfl : dr = false := by rw [hdf]; rfl
              have HE := Lib.hid (HN.out rfl)
              clear hdf HY HN
              go_wp2
              go_roundg (n - (k + 1))
              case measure => omega
              case rel => exact ⟨k + 1, by omega, by omega, by go_num, by rw [HE.out]; exact HG.out⟩
            · subst hw0
              obtain rfl : dr = true := by rw [hdf]; rfl
              have HE := Lib.hid (HY.out rfl)
              clear hdf HY HN
              go_wp2_with (at_builtin; refine app_int rfl _ _ rfl _ rfl rfl HO.out hsz hll ?_)
              intro v' w4 h1 h2
              have HG4 := Lib.hid (HG.out.next (by rw [HML.out]; exact h1) h2)
              clear h1 h2 HG HO
              go_wp2
              go_roundg (n - (k + 1))
              case measure => omega
              case rel => exact ⟨k + 1, by omega, by omega, by go_num, by rw [HE.out]; exact HG4.out⟩
      · obtain ⟨j, rfl⟩ : ∃ j, k = j + 1 := ⟨k - 1, by omega⟩
        have t1 : ((j : Int) + 1 == 0) = false := by simp; omega
        have c1 := ((HG.out).2.2.cell (p := ⟨b, off + j, none⟩) lb).trans (hcell j (by omega))
        rw [show ((List.range n).map (fmB (shL xs n))).getD j false = fmB (shL xs n) j by simp [List.getD, show j < n by omega], show fmB (shL xs n) j = (gzAt xs (j + 1)).on from firm_on xs n hn j (by omega)] at c1
        have wj : IntKind.i64.wrap ((j : Int) + 1 - 1) = (j : Int) := by rw [IntKind.wrap_i64]; omega
        have kb : (0 : Int) ≤ (j : Int) + 1 ∧ (j : Int) + 1 ≤ 100000 := by omega
        clear hcell hd hk0
        obtain ⟨m, hmm⟩ : ∃ m, (dropsL xs (j + 1)).length = m := ⟨_, rfl⟩
        have HML := Lib.hid hmm
        rw [hmm] at hints HO HG hdl hd1 hll ⊢
        rcases Nat.eq_zero_or_pos m with hm | hm
        · have hr : rsB (dropsL xs (j + 1)) (((j + 1) : Nat) : Int) = false := by
            unfold rsB laD
            rw [if_pos (by omega)]; exact decide_eq_false (by omega)
          rw [hr] at hdf
          obtain rfl : m = 0 := by omega
          clear hm hmm
          clear hints hr
          generalize gzD (gzAt xs (j + 1)) (xs.getD (j + 1) 0) = dr at *
          generalize (gzAt xs ((j + 1) + 1)).on = ON at *
          generalize (gzAt xs (j + 1)).on = was at *
          rw [show ((j + 1 : Nat) : Int) = (j : Int) + 1 from rfl] at *
          cases ON
          · cases was
            all_goals
              obtain rfl : dr = false := by rw [hdf]; rfl
              have HE := Lib.hid (HN.out rfl)
              clear hdf HY HN
              go_wp2
              go_roundg (n - ((j + 1) + 1))
              case measure => omega
              case rel => exact ⟨(j + 1) + 1, by omega, by omega, by go_num, by rw [HE.out]; exact HG.out⟩
          · cases was
            ·
              obtain rfl : dr = true := by rw [hdf]; rfl
              have HE := Lib.hid (HY.out rfl)
              clear hdf HY HN
              go_wp2_with (at_builtin; refine app_int rfl _ _ rfl _ rfl rfl HO.out hsz hll ?_)
              intro v' w4 h1 h2
              have HG4 := Lib.hid (HG.out.next (by rw [HML.out]; exact h1) h2)
              clear h1 h2 HG HO
              go_wp2
              go_roundg (n - ((j + 1) + 1))
              case measure => omega
              case rel => exact ⟨(j + 1) + 1, by omega, by omega, by go_num, by rw [HE.out]; exact HG4.out⟩
            ·
              obtain rfl : dr = false := by rw [hdf]; rfl
              have HE := Lib.hid (HN.out rfl)
              clear hdf HY HN
              go_wp2
              go_roundg (n - ((j + 1) + 1))
              case measure => omega
              case rel => exact ⟨(j + 1) + 1, by omega, by omega, by go_num, by rw [HE.out]; exact HG.out⟩
        · obtain ⟨q, rfl⟩ : ∃ q, m = q + 1 := ⟨m - 1, by omega⟩
          obtain ⟨b1, o1, rfl, lb1, hc1⟩ := hints.at_ (k := q) (by omega)
          have hv : laD (dropsL xs (j + 1)) = (dropsL xs (j + 1)).getD q 0 := by
            unfold laD
            rw [if_neg (by omega), hmm]; rfl
          rw [hv] at hbd
          have hr : rsB (dropsL xs (j + 1)) (((j + 1) : Nat) : Int) = decide ((((j + 1) : Nat) : Int) - (dropsL xs (j + 1)).getD q 0 ≤ 4) := by unfold rsB; rw [hv]
          rw [hr] at hdf
          have t2 : decide ((0 : Int) < (q : Int) + 1) = true := decide_eq_true (by omega)
          have wq : IntKind.i64.wrap ((q : Int) + 1 - 1) = (q : Int) := by rw [IntKind.wrap_i64]; omega
          have wl : IntKind.i64.wrap (((j : Int) + 1) - (dropsL xs (j + 1)).getD q 0) = ((j : Int) + 1) - (dropsL xs (j + 1)).getD q 0 := by rw [IntKind.wrap_i64]; omega
          clear hmm hm
          have tc : (((q + 1 : Nat)) : Int) = (q : Int) + 1 := rfl
          rw [tc] at *
          clear hints hr
          generalize gzD (gzAt xs (j + 1)) (xs.getD (j + 1) 0) = dr at *
          generalize (gzAt xs ((j + 1) + 1)).on = ON at *
          generalize (gzAt xs (j + 1)).on = was at *
          generalize (dropsL xs (j + 1)).getD q 0 = l at *
          rw [show ((j + 1 : Nat) : Int) = (j : Int) + 1 from rfl] at *
          clear hv hbd
          by_cases g1 : ((j : Int) + 1) - l ≤ 4
          · have t3 : decide (((j : Int) + 1) - l ≤ 4) = true := decide_eq_true g1
            rw [t3] at hdf
            clear g1
            cases ON
            · cases was
              all_goals
                obtain rfl : dr = false := by rw [hdf]; rfl
                have HE := Lib.hid (HN.out rfl)
                clear hdf HY HN
                go_wp2
                go_roundg (n - ((j + 1) + 1))
                case measure => omega
                case rel => exact ⟨(j + 1) + 1, by omega, by omega, by go_num, by rw [HE.out]; exact HG.out⟩
            · cases was
              ·
                obtain rfl : dr = false := by rw [hdf]; rfl
                have HE := Lib.hid (HN.out rfl)
                clear hdf HY HN
                go_wp2
                go_roundg (n - ((j + 1) + 1))
                case measure => omega
                case rel => exact ⟨(j + 1) + 1, by omega, by omega, by go_num, by rw [HE.out]; exact HG.out⟩
              ·
                obtain rfl : dr = false := by rw [hdf]; rfl
                have HE := Lib.hid (HN.out rfl)
                clear hdf HY HN
                go_wp2
                go_roundg (n - ((j + 1) + 1))
                case measure => omega
                case rel => exact ⟨(j + 1) + 1, by omega, by omega, by go_num, by rw [HE.out]; exact HG.out⟩
          · have t3 : decide (((j : Int) + 1) - l ≤ 4) = false := decide_eq_false g1
            rw [t3] at hdf
            clear g1
            cases ON
            · cases was
              all_goals
                obtain rfl : dr = false := by rw [hdf]; rfl
                have HE := Lib.hid (HN.out rfl)
                clear hdf HY HN
                go_wp2
                go_roundg (n - ((j + 1) + 1))
                case measure => omega
                case rel => exact ⟨(j + 1) + 1, by omega, by omega, by go_num, by rw [HE.out]; exact HG.out⟩
            · cases was
              ·
                obtain rfl : dr = true := by rw [hdf]; rfl
                have HE := Lib.hid (HY.out rfl)
                clear hdf HY HN
                go_wp2_with (at_builtin; refine app_int rfl _ _ rfl _ rfl rfl HO.out hsz hll ?_)
                intro v' w4 h1 h2
                have HG4 := Lib.hid (HG.out.next (by rw [HML.out]; exact h1) h2)
                clear h1 h2 HG HO
                go_wp2
                go_roundg (n - ((j + 1) + 1))
                case measure => omega
                case rel => exact ⟨(j + 1) + 1, by omega, by omega, by go_num, by rw [HE.out]; exact HG4.out⟩
              ·
                obtain rfl : dr = false := by rw [hdf]; rfl
                have HE := Lib.hid (HN.out rfl)
                clear hdf HY HN
                go_wp2
                go_roundg (n - ((j + 1) + 1))
                case measure => omega
                case rel => exact ⟨(j + 1) + 1, by omega, by omega, by go_num, by rw [HE.out]; exact HG.out⟩
    · obtain rfl : k = n := by omega
      obtain ⟨B1, d1, rfl, hd1, hints⟩ := hd.form
      have HH := Lib.hid hints
      have hb := hd.2.2
      have A3 := below_call A2 hb
      clear hints hd
      go_wp2
      all_goals go_ret
      all_goals exact ⟨B1, d1, rfl, hd1, HH.out, A3⟩
end Go.Proofs.Ytmgbegmhanbcnaa
