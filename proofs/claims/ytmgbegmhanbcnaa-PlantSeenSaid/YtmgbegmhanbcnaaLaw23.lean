/- The law package's own check of spec. -/
import Derived.Test.YtmgbegmhanbcnaaSpec3
import Derived.Test.YtmgbegmhanbcnaaRead
namespace Go.Proofs.Ytmgbegmhanbcnaa
open Go.RowKit
set_option linter.unusedVariables false
set_option linter.unusedSimpArgs false
set_option maxRecDepth 100000
attribute [local go_sem] cell_set_ite Near.cell Near.frozen

theorem ints_cells (w : World) (xs : List Int) : Ints (w.alloc (.cells (xs.map (Value.int .i64)).toArray 3)) (some ⟨w.heap.size, 0, none⟩) xs.length xs := by
  refine ⟨rfl, fun _ => ⟨w.heap.size, 0, rfl, by simp, fun i hi => ?_⟩⟩
  rw [World.cell?_alloc_at _ _ _ _ (by simp)]
  simp [List.getD, List.getElem?_eq_getElem hi]
theorem truths_cells (w : World) (xs : List Bool) : Truths (w.alloc (.cells (xs.map Value.bool).toArray 4)) (some ⟨w.heap.size, 0, none⟩) xs.length xs := by
  refine ⟨rfl, fun _ => ⟨w.heap.size, 0, rfl, by simp, fun i hi => ?_⟩⟩
  rw [World.cell?_alloc_at _ _ _ _ (by simp)]
  simp [List.getD, List.getElem?_eq_getElem hi]

set_option maxHeartbeats 2000000 in
theorem bools_same {A B : Option Addr} {n d e : Nat} {ps : List Bool} {w : World} (hn : n ≤ 17592186044416) (ha : Truths w A n ps) (hb : Truths w B n ps) : Calls Try.prog 10 #[.slice A n d, .slice B n e] w fun x w' => x = .returned (.bool true) ∧ Below w.heap.size w w' := by
  go_enter Try.func10, Try.ntmps10
  go_wp2
  go_loopg [13] n (fun gk i wr => ∃ k : Nat, k ≤ n ∧ gk = n - k ∧ i = .int .i64 k ∧ Below w.heap.size w wr)
  case atStart => exact ⟨0, by omega, rfl, rfl, Below.refl _ _⟩
  case round =>
    obtain ⟨k, hk, rfl, rfl, A1⟩ := hrel
    by_cases hlt : k < n
    · obtain ⟨g, o1, rfl, lg, c0⟩ := (ha.below A1).at_ hlt
      obtain ⟨h, o2, rfl, lh, d0⟩ := (hb.below A1).at_ hlt
      have HA := Lib.hid ha
      have HB := Lib.hid hb
      clear ha hb
      generalize ps.getD k false = x0 at *
      cases x0
      all_goals
        go_wp2
        refine wp_region_calm (by kernel_rfl) (by kernel_rfl) ?_
        repeat (go_big_quiet_step ((fail)))
        refine wpQuiet_nil ?_
        intro _ hw'
        obtain ⟨u, rfl⟩ := hw'
        have A2 := below_call A1 u.below
        clear c0 d0
        go_wp2
        go_roundg (n - (k + 1))
        case measure => omega
        case rel => exact ⟨k + 1, by omega, by omega, by go_num, A2⟩
    · obtain rfl : k = n := by omega
      clear ha hb
      go_wp2
      all_goals go_ret
      all_goals exact ⟨rfl, A1⟩

/-- How many lie from lo on and ahead of hi, of the first k. -/
def btN (ds : List Int) (lo hi : Int) : Nat → Nat
  | 0 => 0
  | k + 1 => if lo ≤ ds.getD k 0 ∧ ds.getD k 0 < hi then btN ds lo hi k + 1 else btN ds lo hi k
theorem btN_le (ds : List Int) (lo hi : Int) : ∀ k, btN ds lo hi k ≤ k
  | 0 => Nat.le_refl _
  | k + 1 => by
    have := btN_le ds lo hi k
    unfold btN
    split <;> omega
set_option maxHeartbeats 2000000 in
theorem sp_between (A : Option Addr) (m c : Nat) (ds : List Int) (lo hi : Int) (w : World) (h : Ints w A m ds) (hm : m ≤ 100000) :
    Calls Try.prog 16 #[.slice A m c, .int .i64 lo, .int .i64 hi] w fun e w' => e = .returned (.int .i64 (btN ds lo hi m)) ∧ w = w' := by
  have HI := Lib.hid h
  clear h
  go_enter Try.func16, Try.ntmps16
  go_wp2
  go_loopg [7, 12] m (fun gk x i wr => ∃ k : Nat, k ≤ m ∧ gk = m - k ∧ i = .int .i64 k ∧ x = .int .i64 (btN ds lo hi k) ∧ w = wr)
  case atStart => exact ⟨0, by omega, rfl, rfl, rfl, rfl⟩
  case round =>
    obtain ⟨k, hk, rfl, rfl, rfl, rfl⟩ := hrel
    by_cases hlt : k < m
    · obtain ⟨b, off, rfl, hbs, hcell⟩ := HI.out.2 (by omega)
      have hck := hcell k hlt
      have hle := btN_le ds lo hi k
      have HS := Lib.hid (show btN ds lo hi (k + 1) = if lo ≤ ds.getD k 0 ∧ ds.getD k 0 < hi then btN ds lo hi k + 1 else btN ds lo hi k from rfl)
      clear hcell
      generalize ds.getD k 0 = x at *
      generalize btN ds lo hi k = q at *
      by_cases h1 : lo ≤ x
      · have t1 : decide (lo ≤ x) = true := decide_eq_true h1
        by_cases h2 : x < hi
        · have t2 : decide (x < hi) = true := decide_eq_true h2
          have HE := Lib.hid (HS.out.trans (if_pos ⟨h1, h2⟩))
          clear h1 h2
          go_wp2
          go_roundg (m - (k + 1))
          case measure => omega
          case rel => exact ⟨k + 1, by omega, by omega, by go_num, by rw [HE.out]; go_num, rfl⟩
        · have t2 : decide (x < hi) = false := decide_eq_false h2
          have HE := Lib.hid (HS.out.trans (if_neg (fun h => h2 h.2)))
          clear h1 h2
          go_wp2
          go_roundg (m - (k + 1))
          case measure => omega
          case rel => exact ⟨k + 1, by omega, by omega, by go_num, by rw [HE.out], rfl⟩
      · have t1 : decide (lo ≤ x) = false := decide_eq_false h1
        have HE := Lib.hid (HS.out.trans (if_neg (fun h => h1 h.1)))
        clear h1
        go_wp2
        go_roundg (m - (k + 1))
        case measure => omega
        case rel => exact ⟨k + 1, by omega, by omega, by go_num, by rw [HE.out], rfl⟩
    · obtain rfl : k = m := by omega
      go_wp2
      all_goals go_ret
      all_goals exact ⟨rfl, rfl⟩

set_option maxHeartbeats 2000000 in
theorem law23_awake (w : World) : Calls Try.prog 5 #[] w fun e w' => e = .returned (.bool true) ∧ Below w.heap.size w w' := by
  have HL := sp_drops (some ⟨w.heap.size, 0, none⟩) 3 3 [3000, 2000, 2000] _ (show Ints (w.alloc (.cells #[.int .i64 3000, .int .i64 2000, .int .i64 2000] 3)) _ 3 [3000, 2000, 2000] from ints_cells w [3000, 2000, 2000]) (by omega)
  rw [show dropsL [3000, 2000, 2000] 3 = [2] from by decide +kernel] at HL
  have A := below_alloc_on (Below.refl w.heap.size w) (.cells #[.int .i64 3000, .int .i64 2000, .int .i64 2000] 3)
  have HLX := Lib.hid HL
  clear HL
  go_enter Try.func5, Try.ntmps5
  go_wp2_with (fail)
  refine HLX.out.mono ?_
  rintro e w1 ⟨B, d, rfl, hd, hi1, hb⟩
  have A1 := below_call A hb
  clear hb A HLX
  have HI := Lib.hid hi1
  clear hi1
  go_wp2_with (fail)
  have hq := law4_ints B (some ⟨w1.heap.size, 0, none⟩) 1 d 1 1 [2] [2] (w1.alloc (.cells #[.int .i64 2] 3)) (HI.out.below (below_alloc_on (Below.refl w1.heap.size w1) _)) (ints_cells w1 [2]) (by omega) (by omega)
  rw [eqL_refl] at hq
  refine hq.mono ?_
  rintro e w2 ⟨rfl, t, rfl⟩
  have A2 : Below w.heap.size w ((w1.alloc (.cells #[.int .i64 2] 3)).drewN t) := below_drewN (below_alloc_on A1 _) t
  clear hq A1 HI
  generalize (w1.alloc (.cells #[.int .i64 2] 3)).drewN t = w2 at *
  go_wp2_with (fail)
  have hq := sp_between (some ⟨w2.heap.size, 0, none⟩) 3 3 [2, 5, 9] 2 9 (w2.alloc (.cells #[.int .i64 2, .int .i64 5, .int .i64 9] 3)) (ints_cells w2 [2, 5, 9]) (by omega)
  rw [show btN [2, 5, 9] 2 9 3 = 2 from by decide] at hq
  refine hq.mono ?_
  rintro e w3 ⟨rfl, rfl⟩
  have A3 := below_alloc_on A2 (.cells #[.int .i64 2, .int .i64 5, .int .i64 9] 3)
  clear hq A2
  generalize w2.alloc (.cells #[.int .i64 2, .int .i64 5, .int .i64 9] 3) = w3 at *
  go_wp2_with (fail)
  refine (sp_firms (some ⟨w3.heap.size, 0, none⟩) 5 5 [true, false, true, true, false] (w3.alloc (.cells #[.bool true, .bool false, .bool true, .bool true, .bool false] 4)) (truths_cells w3 [true, false, true, true, false]) (by omega)).mono ?_
  rintro e w4 ⟨g, rfl, wg, C, hb⟩
  have A4 := below_call (below_alloc_on A3 (.cells #[.bool true, .bool false, .bool true, .bool true, .bool false] 4)) hb
  have hT := C.truths
  rw [show (List.range 5).map (fmB [true, false, true, true, false]) = [false, false, false, true, true] from by decide] at hT
  have HT := Lib.hid hT
  clear hT C wg hb A3
  go_wp2_with (fail)
  refine (bools_same (by omega) (HT.out.below (below_alloc_on (Below.refl w4.heap.size w4) (.cells #[.bool false, .bool false, .bool false, .bool true, .bool true] 4))) (truths_cells w4 [false, false, false, true, true])).mono ?_
  rintro e w5 ⟨rfl, hb⟩
  have A5 := below_call (below_alloc_on A4 (.cells #[.bool false, .bool false, .bool false, .bool true, .bool true] 4)) hb
  clear hb A4 HT
  go_wp2
  all_goals go_ret
  all_goals exact ⟨rfl, A5⟩
end Go.Proofs.Ytmgbegmhanbcnaa
