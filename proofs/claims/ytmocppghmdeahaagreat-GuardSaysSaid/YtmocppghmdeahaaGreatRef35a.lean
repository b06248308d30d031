/- The document's answers for the guard's parts: spans, panes, limits. -/
import Derived.Test.YtmocppghmdeahaaGreatGuardA
import Derived.Test.YtmocppghmdeahaaGreatSpan
import Derived.Test.YtmocppghmdeahaaGreatMake
namespace Go.Proofs.YtmocppghmdeahaaGreat
open Go.RowKit
set_option linter.unusedVariables false
set_option linter.unusedSimpArgs false
set_option maxRecDepth 100000
attribute [local go_sem] cell_set_ite Near.cell Near.frozen
attribute [local go_sem ↓] Go.wp_at_zero Go.wp_at_succ

theorem r5_within (x now width : Int) (w : World) :
    Calls Tryz.prog 93 #[.int .i64 x, .int .i64 now, .int .i64 width] w fun e w' => e = .returned (.bool (inV x now width)) ∧ w = w' := by
  have hS := ref_sub now width w
  have hX := ref_clamp x w
  have hN := ref_clamp now w
  obtain ⟨E, hE⟩ : ∃ E, inV x now width = E := ⟨_, rfl⟩
  have hE2 := hE
  unfold inV at hE2
  rw [hE]
  clear hE
  generalize subV now width = b at *
  generalize subB now width = p at *
  have HS := Lib.hid hS
  have HX := Lib.hid hX
  have HN := Lib.hid hN
  clear hS hX hN
  have hE3 : ∀ c d : Int, clV x = c → clV now = d → decide (b < c ∧ c ≤ d) = E := fun c d h1 h2 => by rw [← h1, ← h2]; exact hE2
  obtain ⟨c, hc⟩ : ∃ c, clV x = c := ⟨_, rfl⟩
  obtain ⟨d, hd⟩ : ∃ d, clV now = d := ⟨_, rfl⟩
  have hE2 := hE3 c d hc hd
  rw [hc] at HX
  rw [hd] at HN
  clear hE3 hc hd
  by_cases h1 : b < c
  · by_cases h2 : c ≤ d
    · have HE := Lib.hid (show E = true by rw [← hE2]; simp; omega)
      clear hE2
      go_enter Tryz.func93, Tryz.ntmps93
      go_wp2_with (first
        | (go_at_call 104; refine HS.out.mono ?_; rintro e w' ⟨rfl, rfl⟩)
        | (go_at_call 60; ((with_reducible refine HX.out.mono ?_)); rintro e w' ⟨rfl, rfl⟩)
        | (go_at_call 60; ((with_reducible refine HN.out.mono ?_)); rintro e w' ⟨rfl, rfl⟩))
      all_goals go_ret
      all_goals exact ⟨ret_b (by rw [HE.out]; try simp [*]), rfl⟩
    · have HE := Lib.hid (show E = false by rw [← hE2]; simp; omega)
      clear hE2
      go_enter Tryz.func93, Tryz.ntmps93
      go_wp2_with (first
        | (go_at_call 104; refine HS.out.mono ?_; rintro e w' ⟨rfl, rfl⟩)
        | (go_at_call 60; ((with_reducible refine HX.out.mono ?_)); rintro e w' ⟨rfl, rfl⟩)
        | (go_at_call 60; ((with_reducible refine HN.out.mono ?_)); rintro e w' ⟨rfl, rfl⟩))
      all_goals go_ret
      all_goals exact ⟨ret_b (by rw [HE.out]; try simp [*]), rfl⟩
  · have HE := Lib.hid (show E = false by rw [← hE2]; simp; omega)
    clear hE2
    go_enter Tryz.func93, Tryz.ntmps93
    go_wp2_with (first
      | (go_at_call 104; refine HS.out.mono ?_; rintro e w' ⟨rfl, rfl⟩)
      | (go_at_call 60; ((with_reducible refine HX.out.mono ?_)); rintro e w' ⟨rfl, rfl⟩)
      | (go_at_call 60; ((with_reducible refine HN.out.mono ?_)); rintro e w' ⟨rfl, rfl⟩))
    all_goals go_ret
    all_goals exact ⟨ret_b (by rw [HE.out]; try simp [*]), rfl⟩

theorem r5_count (A : Option Addr) (n c : Nat) (xs : List Int) (now width : Int) (w : World) (h : Ints w A n xs) (hn : n ≤ 9223372036854775807) :
    Calls Tryz.prog 106 #[.slice A n c, .int .i64 now, .int .i64 width] w fun e w' => e = .returned (.int .i64 (cntI xs now width)) ∧ w = w' := by
  obtain ⟨hl, hc⟩ := h
  have HC := Lib.hid hc
  have HL := Lib.hid hl
  clear hc hl
  go_enter Tryz.func106, Tryz.ntmps106
  go_wp2
  go_loop [7, 11] (fun s i => ∃ k : Nat, k ≤ n ∧ s = .int .i64 (cntI (xs.take k) now width) ∧ i = .int .i64 k) (fun _ i => n - (intOf i).toNat)
  case atStart => exact ⟨0, Nat.zero_le _, rfl, rfl⟩
  case round =>
    obtain ⟨k, hk, rfl, rfl⟩ := hrel
    by_cases hlt : k < n
    · obtain ⟨b, off, rfl, _, hcell⟩ := HC.out (by omega)
      have hck := hcell k hlt
      have hcl := HL.out
      have e1 := cnt_step xs now width k (by omega)
      have e2 := cnt_bd (xs.take k) now width
      rw [List.length_take] at e2
      obtain ⟨b0, b1⟩ : 0 ≤ cntI (xs.take k) now width ∧ cntI (xs.take k) now width ≤ k := by omega
      have E1 := Lib.hid e1
      clear hcell hcl e1 e2
      generalize xs.getD k 0 = x at *
      generalize cntI (xs.take k) now width = C at *
      have hW := r5_within x now width w
      generalize inV x now width = I at *
      have HW := Lib.hid hW
      clear hW
      cases I
      all_goals
        go_wp2_with (go_at_call 93; refine HW.out.mono ?_; rintro e w' ⟨rfl, rfl⟩)
        go_round
        case rel => exact ⟨k + 1, by omega, by rw [E1.out]; simp, by go_num⟩
        case measure => simp [intOf]; omega
    · obtain rfl : k = n := by omega
      have e3 : xs.take k = xs := List.take_of_length_le (by have := HL.out; omega)
      rw [e3]
      clear e3
      go_wp2
      go_ret
      exact ⟨rfl, rfl⟩
theorem r5_over (A : Option Addr) (n c : Nat) (xs : List Int) (now width limit : Int) (w : World) (h : Ints w A n xs) (hn : n ≤ 9223372036854775807) :
    Calls Tryz.prog 95 #[.slice A n c, .int .i64 now, .int .i64 width, .int .i64 limit] w fun e w' => e = .returned (.bool (overB xs now width limit)) ∧ w = w' := by
  have H := Lib.hid h
  clear h
  unfold overB
  go_enter Tryz.func95, Tryz.ntmps95
  go_wp2_with (go_at_call 106; refine (r5_count _ _ _ xs _ _ _ H.out hn).mono ?_; rintro e w' ⟨rfl, rfl⟩)
  all_goals go_ret
  all_goals exact ⟨ret_b (by first | rfl | (simp [*]; done)), rfl⟩
theorem r5_put (A : Option Addr) (n c : Nat) (xs : List Int) (t width most : Int) (w : World) (h : Ints w A n xs) (hn : n ≤ 1000) (m0 : -9223372036854775808 ≤ most) (m1 : most ≤ 9223372036854775807) :
    Calls Tryz.prog 65 #[.slice A n c, .int .i64 t, .int .i64 width, .int .i64 most] w (OwnInts w (pushL (nearL xs t width) most t)) := by
  have HI := Lib.hid h
  have HL := Lib.hid h.1
  clear h
  have h0 := Grown.nil w
  have H0 := Lib.hid h0
  clear h0
  go_enter Tryz.func65, Tryz.ntmps65
  go_wp2
  go_loopw [9, 13] (fun v i wr => ∃ k : Nat, k ≤ n ∧ i = .int .i64 k ∧ Grown w (nearL (xs.take k) t width) v wr) (fun _ i _ => n - (intOf i).toNat)
  case atStart => exact ⟨0, Nat.zero_le _, rfl, H0.out⟩
  case round =>
    obtain ⟨k, hk, rfl, hso⟩ := hrel
    have hll := near_le (xs.take k) t width
    rw [List.length_take] at hll
    have hlk : (nearL (xs.take k) t width).length ≤ k := by omega
    clear hll
    by_cases hlt : k < n
    · obtain ⟨b, off, rfl, hbs, hcell⟩ := HI.out.2 (by omega)
      have hck := (hso.2.2.cell (p := ⟨b, off + k, none⟩) hbs).trans (hcell k hlt)
      have e1 := near_step xs t width k (by have := HL.out; omega)
      have E1 := Lib.hid e1
      clear hcell e1
      generalize xs.getD k 0 = x at *
      generalize nearL (xs.take k) t width = ys at *
      have hsz := hso.2.2.size
      obtain ⟨B, d, rfl, hd, hi⟩ := hso.form
      have HS := Lib.hid hso
      have HO := Lib.hid hso.2.1
      clear hso hi hd
      have hW := fun wr => r5_within x t width wr
      generalize inV x t width = I at *
      have HW := Lib.hid hW
      clear hW
      cases I
      · go_wp2_with (go_at_call 93; refine (HW.out _).mono ?_; rintro e w' ⟨rfl, rfl⟩)
        go_roundw
        case rel => exact ⟨k + 1, by omega, by go_num, by rw [E1.out]; simpa using HS.out⟩
        case measure => simp [intOf]; omega
      · go_wp2_with (first
          | (go_at_call 93; refine (HW.out _).mono ?_; rintro e w' ⟨rfl, rfl⟩)
          | (at_builtin; refine app_int rfl _ _ rfl x rfl rfl HO.out hsz (by omega) ?_))
        intro v' w1 hown' hg
        have hnext := Lib.hid (HS.out.next (by simpa using hown') hg)
        clear hown' hg HO HS hck
        go_wp2
        go_roundw
        case rel => exact ⟨k + 1, by omega, by go_num, by rw [E1.out]; simpa using hnext.out⟩
        case measure => simp [intOf]; omega
    · obtain rfl : k = n := by omega
      have e3 : xs.take k = xs := List.take_of_length_le (by have := HL.out; omega)
      rw [e3] at hso hlk
      clear e3
      generalize nearL xs t width = ys at *
      obtain ⟨B, d, rfl, hd, hi⟩ := hso.form
      have HB := Lib.hid hso.2.2
      have HY := Lib.hid hi
      clear hso hi
      go_wp2_with (go_at_call 94; refine (ref_push_own B _ d ys most t _ HY.out hd (by omega) m0 m1).mono ?_; rintro e w1 ⟨v1, rfl, ho1, hb1⟩)
      have HR := Lib.hid (OwnInts.from (w := w) (w1 := wr) ⟨v1, rfl, ho1, hb1⟩ HB.out)
      clear ho1 hb1
      go_ret
      exact HR.out

theorem r26_most (l : Int) (w : World) : Calls Tryz.prog 66 #[.int .i64 l] w fun e w' => e = .returned (.int .i64 (pcV l)) ∧ w = w' := by
  rcases (show l < 0 ∨ (0 ≤ l ∧ l ≤ 511) ∨ 511 < l by omega) with h | ⟨h0, h1⟩ | h
  · rw [show pcV l = 0 by unfold pcV; split <;> (try split) <;> omega]
    go_enter Tryz.func66, Tryz.ntmps66
    go_wp2
    all_goals go_ret
    all_goals exact ⟨by simp; try omega, rfl⟩
  · rw [pc_in h0 h1]
    go_enter Tryz.func66, Tryz.ntmps66
    go_wp2
    all_goals go_ret
    all_goals exact ⟨by simp; try omega, rfl⟩
  · rw [show pcV l = 511 by unfold pcV; split <;> (try split) <;> omega]
    go_enter Tryz.func66, Tryz.ntmps66
    go_wp2
    all_goals go_ret
    all_goals exact ⟨by simp; try omega, rfl⟩
theorem r26_over (A : Option Addr) (n c : Nat) (xs : List Int) (t l : Int) (w : World) (h : Ints w A n xs) (hn : n ≤ 9223372036854775807) :
    Calls Tryz.prog 69 #[.slice A n c, .int .i64 t, .int .i64 l] w fun e w' => e = .returned (.bool (overB xs t 6000 (pcV l))) ∧ w = w' := by
  have HC := Lib.hid (r26_most l w)
  have HO := Lib.hid (r5_over A n c xs t 6000 (pcV l) w h hn)
  generalize overB xs t 6000 (pcV l) = o at *
  generalize pcV l = p at *
  clear h
  go_enter Tryz.func69, Tryz.ntmps69
  go_wp2_with (first
    | (go_at_call 66; refine HC.out.mono ?_; rintro e w' ⟨rfl, rfl⟩)
    | (go_at_call 95; refine HO.out.mono ?_; rintro e w' ⟨rfl, rfl⟩))
  all_goals go_ret
  all_goals exact ⟨rfl, rfl⟩
/-- The drops of the last minute, behind a tick. -/
def pnL26 (xs : List Int) (t : Int) (dr : Bool) (li : Int) : List Int := if dr = true then pushL (nearL xs t 6000) (pcV li + 1) t else lastL xs 512
theorem r26_step (A : Option Addr) (n c : Nat) (xs : List Int) (t l : Int) (dr : Bool) (w : World) (h : Ints w A n xs) (hc : n ≤ c) (hn : n ≤ 1000) :
    Calls Tryz.prog 36 #[.slice A n c, .int .i64 t, .bool dr, .int .i64 l] w (OwnInts w (pnL26 xs t dr l)) := by
  unfold pnL26
  cases dr
  · rw [if_neg (by simp)]
    have HO := Lib.hid (ref_last_own A n c xs 512 w h hc (by omega) (by omega) (by omega))
    generalize lastL xs 512 = ys at *
    clear h
    go_enter Tryz.func36, Tryz.ntmps36
    go_wp2_with (go_at_call 64; refine HO.out.mono ?_; rintro e w' ⟨v, rfl, ho, hb⟩)
    all_goals go_ret
    all_goals exact ⟨v, rfl, ho, hb⟩
  · rw [if_pos rfl]
    have HC := Lib.hid (r26_most l w)
    have ⟨p0, p1⟩ := pc_bd l
    have HO := Lib.hid (r5_put A n c xs t 6000 (pcV l + 1) w h hn (by omega) (by omega))
    generalize pushL (nearL xs t 6000) (pcV l + 1) t = ys at *
    generalize pcV l = p at *
    clear h
    go_enter Tryz.func36, Tryz.ntmps36
    go_wp2_with (first
      | (go_at_call 66; refine HC.out.mono ?_; rintro e w' ⟨rfl, rfl⟩)
      | (go_at_call 65; refine HO.out.mono ?_; rintro e w' ⟨v, rfl, ho, hb⟩))
    all_goals go_ret
    all_goals exact ⟨v, rfl, ho, hb⟩

theorem r9_may (r f : Int) (w : World) : Calls Tryz.prog 59 #[.int .i64 r, .int .i64 f] w fun e w' => e = .returned (.bool (hoB r f)) ∧ w = w' := by
  unfold hoB
  have HK := Lib.hid (fun w => ref9_known f w)
  generalize knB f = k at *
  cases k
  · go_enter Tryz.func59, Tryz.ntmps59
    go_wp2_with (go_at_call 91; refine (HK.out _).mono ?_; rintro e w' ⟨rfl, rfl⟩)
    all_goals go_ret
    all_goals exact ⟨rfl, rfl⟩
  · rw [Bool.true_and]
    by_cases h1 : 1 ≤ r
    · by_cases h2 : r ≤ 1000
      · rw [decide_eq_true ⟨h1, h2⟩]
        go_enter Tryz.func59, Tryz.ntmps59
        go_wp2_with (go_at_call 91; refine (HK.out _).mono ?_; rintro e w' ⟨rfl, rfl⟩)
        all_goals go_ret
        all_goals exact ⟨rfl, rfl⟩
      · rw [decide_eq_false (by omega)]
        go_enter Tryz.func59, Tryz.ntmps59
        go_wp2_with (go_at_call 91; refine (HK.out _).mono ?_; rintro e w' ⟨rfl, rfl⟩)
        all_goals go_ret
        all_goals exact ⟨ret_b (by simp [*]), rfl⟩
    · rw [decide_eq_false (by omega)]
      go_enter Tryz.func59, Tryz.ntmps59
      go_wp2_with (go_at_call 91; refine (HK.out _).mono ?_; rintro e w' ⟨rfl, rfl⟩)
      all_goals go_ret
      all_goals exact ⟨ret_b (by simp [*]), rfl⟩
theorem hour_gt {r f : Int} (h : hoB r f = true) : 10 ≤ r * f ∧ r * f ≤ 60000 := by
  rcases ho_ways r f with ⟨_, k, a, b⟩ | ⟨h2, _⟩ | ⟨h2, _⟩
  · exact hour_in k a b
  · rw [h] at h2; cases h2
  · rw [h] at h2; cases h2
theorem r9_limit (r f : Int) (w : World) : Calls Tryz.prog 30 #[.int .i64 r, .int .i64 f] w fun e w' => e = .returned (.tuple #[.int .i64 (liV r f), .bool (hoB r f)]) ∧ w = w' := by
  have HM := Lib.hid (fun w => r9_may r f w)
  unfold liV
  cases hh : hoB r f
  · rw [if_neg (by simp)]
    rw [hh] at HM
    clear hh
    go_enter Tryz.func30, Tryz.ntmps30
    go_wp2_with (go_at_call 59; refine (HM.out _).mono ?_; rintro e w' ⟨rfl, rfl⟩)
    all_goals go_ret2
    all_goals exact ⟨rfl, rfl⟩
  · obtain ⟨a, b⟩ := hour_gt hh
    rw [if_pos rfl]
    rw [hh] at HM
    clear hh
    obtain ⟨M, hM⟩ : ∃ M, r * f = M := ⟨_, rfl⟩
    rw [hM] at a b ⊢
    have z0 : 0 ≤ M / 60 := by omega
    have z1 : M / 60 ≤ 1000 := by omega
    go_enter Tryz.func30, Tryz.ntmps30
    go_wp2_with (go_at_call 59; refine (HM.out _).mono ?_; rintro e w' ⟨rfl, rfl⟩)
    all_goals go_ret2
    all_goals exact ⟨rfl, rfl⟩
theorem r9_timeout (r f : Int) (w : World) : Calls Tryz.prog 67 #[.int .i64 r, .int .i64 f] w fun e w' => e = .returned (.tuple #[.int .i64 (toV r f), .bool (hoB r f)]) ∧ w = w' := by
  have HM := Lib.hid (fun w => r9_may r f w)
  unfold toV
  cases hh : hoB r f
  · rw [if_neg (by simp)]
    rw [hh] at HM
    clear hh
    go_enter Tryz.func67, Tryz.ntmps67
    go_wp2_with (go_at_call 59; refine (HM.out _).mono ?_; rintro e w' ⟨rfl, rfl⟩)
    all_goals go_ret2
    all_goals exact ⟨rfl, rfl⟩
  · obtain ⟨a, b⟩ := hour_gt hh
    rw [if_pos rfl]
    rw [hh] at HM
    clear hh
    obtain ⟨M, hM⟩ : ∃ M, r * f = M := ⟨_, rfl⟩
    rw [hM] at a b ⊢
    have z0 : 0 ≤ 1440000 / M := Int.ediv_nonneg (by omega) (by omega)
    have z1 : 1440000 / M ≤ 1440000 := Int.ediv_le_self _ (by omega)
    have nz : ¬ M = 0 := by omega
    go_enter Tryz.func67, Tryz.ntmps67
    go_wp2_with (go_at_call 59; refine (HM.out _).mono ?_; rintro e w' ⟨rfl, rfl⟩)
    all_goals go_ret2
    all_goals exact ⟨rfl, rfl⟩
end Go.Proofs.YtmocppghmdeahaaGreat
