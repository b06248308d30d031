/- Contracts of package spec: levels, shades, firms. -/
import Derived.Test.YtmgbegmhanbcnaaSpec
namespace Go.Proofs.Ytmgbegmhanbcnaa
open Go.RowKit
set_option linter.unusedVariables false
set_option linter.unusedSimpArgs false
set_option maxRecDepth 100000
attribute [local go_sem] cell_set_ite Near.cell Near.frozen

theorem sp_levels (A : Option Addr) (n c : Nat) (xs : List Int) (w : World) (h : Ints w A n xs) (hn : n ≤ 100000) :
    Calls Try.prog 8 #[.slice A n c] w fun e w' => ∃ g, e = .returned (.slice (some ⟨g, 0, none⟩) n n) ∧ Col w' g n (fun i => .int .i64 (lvF xs i)) ∧ Below w.heap.size w w' := by
  have H := Lib.hid (sp_follow A n c xs w h hn)
  clear h
  go_enter Try.func8, Try.ntmps8
  go_wp2_with (fail)
  refine H.out.mono ?_
  rintro e w1 ⟨g, h, rfl, C, D, hb⟩
  have HC := Lib.hid C
  clear C D
  go_wp2
  all_goals go_ret
  all_goals exact ⟨g, rfl, HC.out, hb⟩
theorem sp_shades (A : Option Addr) (n c : Nat) (xs : List Int) (w : World) (h : Ints w A n xs) (hn : n ≤ 100000) :
    Calls Try.prog 11 #[.slice A n c] w fun e w' => ∃ g, e = .returned (.slice (some ⟨g, 0, none⟩) n n) ∧ Col w' g n (fun i => .bool (shF xs i)) ∧ Below w.heap.size w w' := by
  have H := Lib.hid (sp_follow A n c xs w h hn)
  clear h
  go_enter Try.func11, Try.ntmps11
  go_wp2_with (fail)
  refine H.out.mono ?_
  rintro e w1 ⟨g, h, rfl, C, D, hb⟩
  have HD := Lib.hid D
  clear C D
  go_wp2
  all_goals go_ret
  all_goals exact ⟨h, rfl, HD.out, hb⟩

/-- Whether tick t is firmly shaded. -/
def fmB (ps : List Bool) : Nat → Bool
  | 0 => false
  | t + 1 => if ps.getD (t + 1) false = ps.getD t false then ps.getD (t + 1) false else fmB ps t
set_option maxHeartbeats 2000000 in
theorem sp_firms (A : Option Addr) (n c : Nat) (ps : List Bool) (w : World) (h : Truths w A n ps) (hn : n ≤ 100000) :
    Calls Try.prog 13 #[.slice A n c] w fun e w' => ∃ g, e = .returned (.slice (some ⟨g, 0, none⟩) n n) ∧ w.heap.size ≤ g ∧ Col w' g n (fun i => .bool (fmB ps i)) ∧ Below w.heap.size w w' := by
  have HI := Lib.hid h
  obtain ⟨j0, hj0, hy0, hy1, hy2⟩ := info_parts truth_info
  have hmt := run_make (P := Try.prog) w 23 4 j0 _ Try.underlying23 hj0 hy0 .i64 .i64 n n (by omega) (by omega) (by rw [hy2]; omega) (by omega)
  simp only [hy1, Int.toNat_natCast, Nat.mul_one, show (Value.bool false).cells = #[.bool false] from rfl] at hmt
  have C1 := col_new w n (.bool false) 4
  have A1 := below_alloc_on (Below.refl w.heap.size w) (.cells (madeCells #[.bool false] n) 4)
  clear h hy0 hy1 hy2 hj0
  go_enter Try.func13, Try.ntmps13
  go_wp2
  obtain ⟨g, hg⟩ : ∃ g, w.heap.size = g := ⟨_, rfl⟩
  have wg : w.heap.size ≤ g := by omega
  simp only [hg] at C1 ⊢
  clear hmt
  generalize w.alloc (.cells (madeCells #[.bool false] n) 4) = w1 at *
  clear hg
  go_loopg [4] n (fun gk i wr => ∃ k : Nat, gk = n - k ∧ (k + 1 ≤ n ∨ k = 0) ∧ i = .int .i64 ((k : Int) + 1) ∧ Below w.heap.size w wr ∧ Col wr g n (fun i => if i < k + 1 then .bool (fmB ps i) else .bool false))
  case atStart => exact ⟨0, rfl, .inr rfl, rfl, A1, C1.congr (fun i _ => by
    by_cases e : i < 0 + 1
    · obtain rfl : i = 0 := by omega
      rw [if_pos e]; rfl
    · rw [if_neg e])⟩
  case round =>
    clear C1 A1
    obtain ⟨k, rfl, hk, rfl, A1, C1⟩ := hrel
    by_cases hlt : k + 1 < n
    · have t0 : decide ((k : Int) + 1 < n) = true := decide_eq_true (by omega)
      obtain ⟨b, off, rfl, hbs, hcell⟩ := HI.out.2 (by omega)
      have p0 := (A1.cell (p := ⟨b, off + k, none⟩) hbs).trans (hcell k (by omega))
      have p1 := (A1.cell (p := ⟨b, off + (k + 1), none⟩) hbs).trans (hcell (k + 1) hlt)
      have c0 : wr.cell? ⟨g, k, none⟩ = some (.bool (fmB ps k)) := by rw [C1.cell k (by omega), if_pos (by omega)]
      have c1 : wr.cell? ⟨g, k + 1, none⟩ = some (.bool false) := by rw [C1.cell (k + 1) hlt, if_neg (by omega)]
      have bg : b ≠ g := by omega
      have lg := C1.lt
      have fg := C1.frz
      have HC := Lib.hid C1
      have HF := Lib.hid (show fmB ps (k + 1) = if ps.getD (k + 1) false = ps.getD k false then ps.getD (k + 1) false else fmB ps k from rfl)
      clear hcell C1 hk
      generalize ps.getD k false = x0 at *
      generalize ps.getD (k + 1) false = x1 at *
      generalize hf : fmB ps k = f at *
      go_upto_region 6 with (fail)
      refine at_world (fun W => Below w.heap.size w W ∧ Col W g n (fun i => if i = k + 1 then .bool f else if i < k + 1 then .bool (fmB ps i) else .bool false) ∧ W.cell? ⟨b, off + k, none⟩ = some (.bool x0) ∧ W.cell? ⟨b, off + (k + 1), none⟩ = some (.bool x1)) ⟨below_set_on A1 wg _, HC.out.set hlt _, (World.cell?_setCell_other wr _ _ _ (fun e => bg (congrArg Addr.block e).symm)).trans p0, (World.cell?_setCell_other wr _ _ _ (fun e => bg (congrArg Addr.block e).symm)).trans p1⟩ ?_
      rintro w2 ⟨A2, C2, q0, q1⟩
      have lb : b < w2.heap.size := Nat.lt_of_lt_of_le hbs A2.size
      clear p0 p1 c0 c1 lg fg A1 HC
      have HC := Lib.hid C2
      clear C2
      cases x0
      · cases x1
        · refine wp_region_calm (by kernel_rfl) (by kernel_rfl) ?_
          repeat (go_big_quiet_step ((fail)))
          refine wpQuiet_nil ?_
          intro _ hw'
          obtain ⟨u, rfl⟩ := hw'
          have A3 := below_call A2 u.below
          have C3 := HC.out.below u.below
          have q3 : u.at_.cell? ⟨b, off + (k + 1), none⟩ = some (.bool false) := (u.below.cell (p := ⟨b, off + (k + 1), none⟩) lb).trans q1
          clear q0 q1 A2 lb
          generalize u.at_ = w3 at *
          have c3 : w3.cell? ⟨g, k + 1, none⟩ = some (.bool f) := by rw [C3.cell (k + 1) hlt, if_pos rfl]
          have l3 := C3.lt
          have f3 := C3.frz
          have C4 := Lib.hid ((C3.set hlt (.bool false)).congr (G := fun i => if i < k + 1 + 1 then .bool (fmB ps i) else .bool false) (fun i hi => by
            by_cases e : i = k + 1
            · subst e; rw [if_pos rfl, if_pos (by omega), HF.out, if_pos rfl]
            · rw [if_neg e, if_neg e]
              by_cases e2 : i < k + 1
              · rw [if_pos e2, if_pos (by omega)]
              · rw [if_neg e2, if_neg (by omega)]))
          have A4 := below_set_on A3 (p := ⟨g, k + 1, none⟩) wg (.bool false)
          clear C3
          go_wp2
          go_roundg (n - (k + 1))
          case measure => omega
          case rel => exact ⟨k + 1, rfl, .inl (by omega), by go_num, A4, C4.out⟩
        · refine wp_region_calm (by kernel_rfl) (by kernel_rfl) ?_
          repeat (go_big_quiet_step ((fail)))
          refine wpQuiet_nil ?_
          intro _ hw'
          obtain ⟨u, rfl⟩ := hw'
          have A3 := below_call A2 u.below
          have C3 := HC.out.below u.below
          have q3 : u.at_.cell? ⟨b, off + (k + 1), none⟩ = some (.bool true) := (u.below.cell (p := ⟨b, off + (k + 1), none⟩) lb).trans q1
          clear q0 q1 A2 lb
          generalize u.at_ = w3 at *
          have c3 : w3.cell? ⟨g, k + 1, none⟩ = some (.bool f) := by rw [C3.cell (k + 1) hlt, if_pos rfl]
          have l3 := C3.lt
          have f3 := C3.frz
          have C4 := Lib.hid (C3.congr (G := fun i => if i < k + 1 + 1 then .bool (fmB ps i) else .bool false) (fun i hi => by
            by_cases e : i = k + 1
            · subst e; rw [if_pos rfl, if_pos (by omega), HF.out, if_neg (by simp)]
            · rw [if_neg e]
              by_cases e2 : i < k + 1
              · rw [if_pos e2, if_pos (by omega)]
              · rw [if_neg e2, if_neg (by omega)]))
          have A4 := A3
          clear C3
          go_wp2
          go_roundg (n - (k + 1))
          case measure => omega
          case rel => exact ⟨k + 1, rfl, .inl (by omega), by go_num, A4, C4.out⟩
      · cases x1
        · refine wp_region_calm (by kernel_rfl) (by kernel_rfl) ?_
          repeat (go_big_quiet_step ((fail)))
          refine wpQuiet_nil ?_
          intro _ hw'
          obtain ⟨u, rfl⟩ := hw'
          have A3 := below_call A2 u.below
          have C3 := HC.out.below u.below
          have q3 : u.at_.cell? ⟨b, off + (k + 1), none⟩ = some (.bool false) := (u.below.cell (p := ⟨b, off + (k + 1), none⟩) lb).trans q1
          clear q0 q1 A2 lb
          generalize u.at_ = w3 at *
          have c3 : w3.cell? ⟨g, k + 1, none⟩ = some (.bool f) := by rw [C3.cell (k + 1) hlt, if_pos rfl]
          have l3 := C3.lt
          have f3 := C3.frz
          have C4 := Lib.hid (C3.congr (G := fun i => if i < k + 1 + 1 then .bool (fmB ps i) else .bool false) (fun i hi => by
            by_cases e : i = k + 1
            · subst e; rw [if_pos rfl, if_pos (by omega), HF.out, if_neg (by simp)]
            · rw [if_neg e]
              by_cases e2 : i < k + 1
              · rw [if_pos e2, if_pos (by omega)]
              · rw [if_neg e2, if_neg (by omega)]))
          have A4 := A3
          clear C3
          go_wp2
          go_roundg (n - (k + 1))
          case measure => omega
          case rel => exact ⟨k + 1, rfl, .inl (by omega), by go_num, A4, C4.out⟩
        · refine wp_region_calm (by kernel_rfl) (by kernel_rfl) ?_
          repeat (go_big_quiet_step ((fail)))
          refine wpQuiet_nil ?_
          intro _ hw'
          obtain ⟨u, rfl⟩ := hw'
          have A3 := below_call A2 u.below
          have C3 := HC.out.below u.below
          have q3 : u.at_.cell? ⟨b, off + (k + 1), none⟩ = some (.bool true) := (u.below.cell (p := ⟨b, off + (k + 1), none⟩) lb).trans q1
          clear q0 q1 A2 lb
          generalize u.at_ = w3 at *
          have c3 : w3.cell? ⟨g, k + 1, none⟩ = some (.bool f) := by rw [C3.cell (k + 1) hlt, if_pos rfl]
          have l3 := C3.lt
          have f3 := C3.frz
          have C4 := Lib.hid ((C3.set hlt (.bool true)).congr (G := fun i => if i < k + 1 + 1 then .bool (fmB ps i) else .bool false) (fun i hi => by
            by_cases e : i = k + 1
            · subst e; rw [if_pos rfl, if_pos (by omega), HF.out, if_pos rfl]
            · rw [if_neg e, if_neg e]
              by_cases e2 : i < k + 1
              · rw [if_pos e2, if_pos (by omega)]
              · rw [if_neg e2, if_neg (by omega)]))
          have A4 := below_set_on A3 (p := ⟨g, k + 1, none⟩) wg (.bool true)
          clear C3
          go_wp2
          go_roundg (n - (k + 1))
          case measure => omega
          case rel => exact ⟨k + 1, rfl, .inl (by omega), by go_num, A4, C4.out⟩
    · have t0 : decide ((k : Int) + 1 < n) = false := decide_eq_false (by omega)
      have HC := Lib.hid (C1.congr (G := fun i => .bool (fmB ps i)) (fun i hi => if_pos (by omega)))
      clear C1
      go_wp2
      all_goals go_ret
      all_goals exact ⟨g, rfl, wg, HC.out, A1⟩
end Go.Proofs.Ytmgbegmhanbcnaa
