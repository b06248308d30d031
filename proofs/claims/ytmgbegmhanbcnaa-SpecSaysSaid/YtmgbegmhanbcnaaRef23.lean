/- Contracts of the document's spec. -/
import Derived.Test.YtmgbegmhanbcnaaLaw23
namespace Go.Proofs.Ytmgbegmhanbcnaa
open Go.RowKit
set_option linter.unusedVariables false
set_option linter.unusedSimpArgs false
set_option maxRecDepth 100000
attribute [local go_sem] cell_set_ite Near.cell Near.frozen

set_option maxHeartbeats 2000000 in
theorem rs_between (A : Option Addr) (m c : Nat) (ds : List Int) (lo hi : Int) (w : World) (h : Ints w A m ds) (hm : m ≤ 100000) :
    Calls Try.prog 17 #[.slice A m c, .int .i64 lo, .int .i64 hi] w fun e w' => e = .returned (.int .i64 (btN ds lo hi m)) ∧ w = w' := by
  have HI := Lib.hid h
  clear h
  go_enter Try.func17, Try.ntmps17
  go_wp2
  go_loopg [7, 11] m (fun gk x i wr => ∃ k : Nat, k ≤ m ∧ gk = m - k ∧ i = .int .i64 k ∧ x = .int .i64 (btN ds lo hi k) ∧ w = wr)
  case atStart => exact ⟨0, by omega, rfl, rfl, rfl, rfl⟩
  case round =>
    obtain ⟨k, hk, rfl, rfl, rfl, rfl⟩ := hrel
    by_cases hlt : k < m
    · obtain ⟨b, off, rfl, hbs, hcell⟩ := HI.out.2 (by omega)
      have hck := hcell k hlt
      have hle := btN_le ds lo hi k
      have HS := Lib.hid (show btN ds lo hi (k + 1) = if lo ≤ ds.getD k 0 ∧ ds.getD k 0 < hi then btN ds lo hi k + 1 else btN ds lo hi k from rfl)
      clear hcell
      generalize ds.getD k 0 = x at *
      generalize btN ds lo hi k = q at *
      by_cases h1 : lo ≤ x
      · have t1 : decide (lo ≤ x) = true := decide_eq_true h1
        by_cases h2 : x < hi
        · have t2 : decide (x < hi) = true := decide_eq_true h2
          have HE := Lib.hid (HS.out.trans (if_pos ⟨h1, h2⟩))
          clear h1 h2
          go_wp2
          go_roundg (m - (k + 1))
          case measure => omega
          case rel => exact ⟨k + 1, by omega, by omega, by go_num, by rw [HE.out]; go_num, rfl⟩
        · have t2 : decide (x < hi) = false := decide_eq_false h2
          have HE := Lib.hid (HS.out.trans (if_neg (fun h => h2 h.2)))
          clear h1 h2
          go_wp2
          go_roundg (m - (k + 1))
          case measure => omega
          case rel => exact ⟨k + 1, by omega, by omega, by go_num, by rw [HE.out], rfl⟩
      · have t1 : decide (lo ≤ x) = false := decide_eq_false h1
        have HE := Lib.hid (HS.out.trans (if_neg (fun h => h1 h.1)))
        clear h1
        go_wp2
        go_roundg (m - (k + 1))
        case measure => omega
        case rel => exact ⟨k + 1, by omega, by omega, by go_num, by rw [HE.out], rfl⟩
    · obtain rfl : k = m := by omega
      go_wp2
      all_goals go_ret
      all_goals exact ⟨rfl, rfl⟩


set_option maxHeartbeats 2000000 in
theorem rs_firm (A : Option Addr) (n c t : Nat) (ps : List Bool) (w : World) (h : Truths w A n ps) (hn : n ≤ 100000) (ht : t < n) :
    Calls Try.prog 27 #[.slice A n c, .int .i64 t] w fun e w' => e = .returned (.bool (fmB ps t)) ∧ Below w.heap.size w w' := by
  have HI := Lib.hid h
  clear h
  go_enter Try.func27, Try.ntmps27
  go_wp2
  go_loopg [1] (t + 1) (fun gk i wr => ∃ k : Nat, k ≤ t ∧ gk = k + 1 ∧ i = .int .i64 k ∧ fmB ps k = fmB ps t ∧ Below w.heap.size w wr)
  case atStart => exact ⟨t, Nat.le_refl _, rfl, rfl, rfl, Below.refl _ _⟩
  case round =>
    obtain ⟨k, hk, rfl, rfl, he, A1⟩ := hrel
    cases k with
    | zero =>
      have HE := Lib.hid (show false = fmB ps t from he)
      clear he
      rw [show ((0 : Nat) : Int) = 0 from rfl]
      go_wp2
      all_goals go_ret
      all_goals exact ⟨congrArg (fun x => Ending.returned (Value.bool x)) HE.out, A1⟩
    | succ j =>
      obtain ⟨b, off, rfl, lb0, hcell⟩ := (HI.out.below A1).2 (by omega)
      have c0 := hcell j (by omega)
      have c1 := hcell (j + 1) (by omega)
      have HE := Lib.hid (show (if ps.getD (j + 1) false = ps.getD j false then ps.getD (j + 1) false else fmB ps j) = fmB ps t from he)
      have t1 : decide ((0 : Int) < (j : Int) + 1) = true := decide_eq_true (by omega)
      clear he hcell
      generalize ps.getD (j + 1) false = x1 at *
      generalize ps.getD j false = x0 at *
      rw [show ((j + 1 : Nat) : Int) = (j : Int) + 1 from rfl]
      cases x1 <;> cases x0
      · go_wp2
        have wj : IntKind.i64.wrap ((j : Int) + 1 - 1) = (j : Int) := by rw [IntKind.wrap_i64]; omega
        refine wp_region_calm (by kernel_rfl) (by kernel_rfl) ?_
        repeat (go_big_quiet_step ((fail)))
        refine wpQuiet_nil ?_
        intro _ hw'
        obtain ⟨u, rfl⟩ := hw'
        have A2 := below_call A1 u.below
        have d1 := (u.below.cell (p := ⟨b, off + (j + 1), none⟩) lb0).trans c1
        clear c0 c1 lb0 A1 wj
        generalize u.at_ = w2 at *
        have HE2 := HE.out
        rw [if_pos trivial] at HE2
        have HF := Lib.hid HE2
        clear HE2 HE
        go_wp2
        go_ret
        exact ⟨congrArg (fun x => Ending.returned (Value.bool x)) HF.out, A2⟩
      · go_wp2
        have wj : IntKind.i64.wrap ((j : Int) + 1 - 1) = (j : Int) := by rw [IntKind.wrap_i64]; omega
        refine wp_region_calm (by kernel_rfl) (by kernel_rfl) ?_
        repeat (go_big_quiet_step ((fail)))
        refine wpQuiet_nil ?_
        intro _ hw'
        obtain ⟨u, rfl⟩ := hw'
        have A2 := below_call A1 u.below
        have d1 := (u.below.cell (p := ⟨b, off + (j + 1), none⟩) lb0).trans c1
        clear c0 c1 lb0 A1 wj
        generalize u.at_ = w2 at *
        have HE2 := HE.out
        rw [if_neg (by simp)] at HE2
        have HF := Lib.hid HE2
        clear HE2 HE
        go_wp2
        go_roundg (j + 1)
        case measure => omega
        case rel => exact ⟨j, by omega, rfl, by go_num, HF.out, A2⟩
      · go_wp2
        have wj : IntKind.i64.wrap ((j : Int) + 1 - 1) = (j : Int) := by rw [IntKind.wrap_i64]; omega
        refine wp_region_calm (by kernel_rfl) (by kernel_rfl) ?_
        repeat (go_big_quiet_step ((fail)))
        refine wpQuiet_nil ?_
        intro _ hw'
        obtain ⟨u, rfl⟩ := hw'
        have A2 := below_call A1 u.below
        have d1 := (u.below.cell (p := ⟨b, off + (j + 1), none⟩) lb0).trans c1
        clear c0 c1 lb0 A1 wj
        generalize u.at_ = w2 at *
        have HE2 := HE.out
        rw [if_neg (by simp)] at HE2
        have HF := Lib.hid HE2
        clear HE2 HE
        go_wp2
        go_roundg (j + 1)
        case measure => omega
        case rel => exact ⟨j, by omega, rfl, by go_num, HF.out, A2⟩
      · go_wp2
        have wj : IntKind.i64.wrap ((j : Int) + 1 - 1) = (j : Int) := by rw [IntKind.wrap_i64]; omega
        refine wp_region_calm (by kernel_rfl) (by kernel_rfl) ?_
        repeat (go_big_quiet_step ((fail)))
        refine wpQuiet_nil ?_
        intro _ hw'
        obtain ⟨u, rfl⟩ := hw'
        have A2 := below_call A1 u.below
        have d1 := (u.below.cell (p := ⟨b, off + (j + 1), none⟩) lb0).trans c1
        clear c0 c1 lb0 A1 wj
        generalize u.at_ = w2 at *
        have HE2 := HE.out
        rw [if_pos trivial] at HE2
        have HF := Lib.hid HE2
        clear HE2 HE
        go_wp2
        go_ret
        exact ⟨congrArg (fun x => Ending.returned (Value.bool x)) HF.out, A2⟩
end Go.Proofs.Ytmgbegmhanbcnaa
