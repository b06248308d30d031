/- Contracts of package total, and of the document's. -/
import Derived.Test.YtmjflkljgljnjaaTot
namespace Go.Proofs.Ytmjflkljgljnjaa
open Go.RowKit
set_option linter.unusedVariables false
attribute [local go_sem] cell_set_ite Near.cell Near.frozen

def adV (d : Int) : Int := if tdV d + 1 ≤ 9007199254740 then tdV d + 1 else 9007199254740
theorem vo_bd (s d b : Int) : 0 ≤ voV s d b ∧ voV s d b ≤ 99999999 := withK_bd (by omega)

theorem to_drops (s d b : Int) (w : World) : Calls Try.prog 17 #[.agg #[.int .i64 s, .int .i64 d, .int .i64 b]] w fun e w' => e = .returned (.int .i64 (tdV d)) ∧ Below w.heap.size w w' := by
  unfold tdV
  rcases (by omega : d < 0 ∨ (0 ≤ d ∧ d ≤ 9007199254740) ∨ 9007199254740 < d) with h1 | ⟨h1, h2⟩ | h1
  · rw [withK_1 (by omega) h1]
    go_enter Try.func17, Try.ntmps17
    go_wp2
    all_goals go_ret
    all_goals exact ⟨ret_i (by omega), by (repeat (first | (with_reducible exact Below.refl _ _) | (with_reducible assumption) | (with_reducible refine Near.up _ ?_) | (with_reducible refine below_alloc_on ?_ _) | (with_reducible refine below_set_on ?_ (by first | (simp; done) | (simp; omega) | omega) _)))⟩
  · rw [withK_2 h1 h2]
    go_enter Try.func17, Try.ntmps17
    go_wp2
    all_goals go_ret
    all_goals exact ⟨ret_i (by omega), by (repeat (first | (with_reducible exact Below.refl _ _) | (with_reducible assumption) | (with_reducible refine Near.up _ ?_) | (with_reducible refine below_alloc_on ?_ _) | (with_reducible refine below_set_on ?_ (by first | (simp; done) | (simp; omega) | omega) _)))⟩
  · rw [withK_3 (by omega) h1]
    go_enter Try.func17, Try.ntmps17
    go_wp2
    all_goals go_ret
    all_goals exact ⟨ret_i (by omega), by (repeat (first | (with_reducible exact Below.refl _ _) | (with_reducible assumption) | (with_reducible refine Near.up _ ?_) | (with_reducible refine below_alloc_on ?_ _) | (with_reducible refine below_set_on ?_ (by first | (simp; done) | (simp; omega) | omega) _)))⟩
theorem to_base (s d b : Int) (w : World) : Calls Try.prog 19 #[.agg #[.int .i64 s, .int .i64 d, .int .i64 b]] w fun e w' => e = .returned (.int .i64 (tbV b)) ∧ Below w.heap.size w w' := by
  unfold tbV
  rcases (by omega : b < 0 ∨ (0 ≤ b ∧ b ≤ 99999999) ∨ 99999999 < b) with h1 | ⟨h1, h2⟩ | h1
  · rw [withK_1 (by omega) h1]
    go_enter Try.func19, Try.ntmps19
    go_wp2
    all_goals go_ret
    all_goals exact ⟨ret_i (by omega), by (repeat (first | (with_reducible exact Below.refl _ _) | (with_reducible assumption) | (with_reducible refine Near.up _ ?_) | (with_reducible refine below_alloc_on ?_ _) | (with_reducible refine below_set_on ?_ (by first | (simp; done) | (simp; omega) | omega) _)))⟩
  · rw [withK_2 h1 h2]
    go_enter Try.func19, Try.ntmps19
    go_wp2
    all_goals go_ret
    all_goals exact ⟨ret_i (by omega), by (repeat (first | (with_reducible exact Below.refl _ _) | (with_reducible assumption) | (with_reducible refine Near.up _ ?_) | (with_reducible refine below_alloc_on ?_ _) | (with_reducible refine below_set_on ?_ (by first | (simp; done) | (simp; omega) | omega) _)))⟩
  · rw [withK_3 (by omega) h1]
    go_enter Try.func19, Try.ntmps19
    go_wp2
    all_goals go_ret
    all_goals exact ⟨ret_i (by omega), by (repeat (first | (with_reducible exact Below.refl _ _) | (with_reducible assumption) | (with_reducible refine Near.up _ ?_) | (with_reducible refine below_alloc_on ?_ _) | (with_reducible refine below_set_on ?_ (by first | (simp; done) | (simp; omega) | omega) _)))⟩
theorem rt_base (b : Int) (w : World) : Calls Try.prog 23 #[.int .i64 b] w fun e w' => e = .returned (.int .i64 (tbV b)) ∧ w = w' := by
  unfold tbV
  rcases (by omega : b < 0 ∨ (0 ≤ b ∧ b ≤ 99999999) ∨ 99999999 < b) with h1 | ⟨h1, h2⟩ | h1
  · rw [withK_1 (by omega) h1]
    go_enter Try.func23, Try.ntmps23
    go_wp2
    all_goals go_ret
    all_goals exact ⟨ret_i (by omega), rfl⟩
  · rw [withK_2 h1 h2]
    go_enter Try.func23, Try.ntmps23
    go_wp2
    all_goals go_ret
    all_goals exact ⟨ret_i (by omega), rfl⟩
  · rw [withK_3 (by omega) h1]
    go_enter Try.func23, Try.ntmps23
    go_wp2
    all_goals go_ret
    all_goals exact ⟨ret_i (by omega), rfl⟩

theorem to_volume (s d b : Int) (w : World) : Calls Try.prog 6 #[.agg #[.int .i64 s, .int .i64 d, .int .i64 b]] w fun e w' => e = .returned (.tuple #[.int .i64 (voV s d b), .bool (voB s d b)]) ∧ Below w.heap.size w w' := by
  have ⟨d0, d1⟩ := td_bd d
  have ⟨b0, b1⟩ := tb_bd b
  have ⟨f0, f1⟩ := fv_bd (d := tdV d) (f := s) d0 d1
  have HD := Lib.hid (fun w => to_drops s d b w)
  have HB := Lib.hid (fun w => to_base s d b w)
  have HV := Lib.hid (fun w => dt_volume w (tdV d) s d0 d1 w (At.refl w))
  unfold voV voB
  have A0 : Below w.heap.size w w := Below.refl _ _
  generalize fvV (tdV d) s = F at *
  generalize tdV d = D at *
  generalize tbV b = B at *
  go_enter Try.func6, Try.ntmps6
  go_wp2
  refine wp_region_calm (by kernel_rfl) (by kernel_rfl) ?_
  repeat (go_big_quiet_step ((first | ((go_at_call 17; exact calm_of _ (HD.out _))) | ((go_at_call 16; exact calm_of _ (HV.out _))))))
  refine wpQuiet_nil ?_
  intro _ hw'
  obtain ⟨u, rfl⟩ := hw'
  have B1 := (box_new w #[.int .i64 s, .int .i64 d, .int .i64 b] 23).near u
  have A1 := u.up (below_alloc_on A0 (.cells #[.int .i64 s, .int .i64 d, .int .i64 b] 23))
  generalize u.at_ = w1 at *
  obtain ⟨c0, c1, c2, cf, cl⟩ := B1.three
  go_wp2_with (first
    | (go_at_call 19; refine (HB.out _).mono ?_; rintro e w' ⟨rfl, hb⟩; have A2 := below_call A1 hb)
    | (go_at_call 18; refine (sat_within _ _ _ _).mono ?_; rintro e w' ⟨rfl, rfl⟩))
  all_goals go_ret2
  all_goals exact ⟨rfl, A2⟩
theorem rt_volume (s d b : Int) (w : World) : Calls Try.prog 7 #[.agg #[.int .i64 s, .int .i64 d, .int .i64 b]] w fun e w' => e = .returned (.tuple #[.int .i64 (voV s d b), .bool (voB s d b)]) ∧ Below w.heap.size w w' := by
  have ⟨d0, d1⟩ := td_bd d
  have ⟨b0, b1⟩ := tb_bd b
  have ⟨f0, f1⟩ := fv_bd (d := tdV d) (f := s) d0 d1
  have HB := Lib.hid (fun w => rt_base b w)
  have HK := Lib.hid (fun w => ref9_known s w)
  have HW := Lib.hid (show ∀ w, Calls Try.prog 21 #[.int .i64 d, .int .i64 0, .int .i64 9007199254740] w fun e w' => e = .returned (.tuple #[.int .i64 (tdV d), .bool (withB d 0 9007199254740)]) ∧ w = w' from fun w => ref_within d 0 9007199254740 w)
  unfold voV voB
  have A0 : Below w.heap.size w w := Below.refl _ _
  have A1 := below_alloc_on A0 (.cells #[.int .i64 s, .int .i64 d, .int .i64 b] 23)
  have B1 := box_new w #[.int .i64 s, .int .i64 d, .int .i64 b] 23
  generalize withB d 0 9007199254740 = wb at *
  cases hk : knB s
  · have e0 : fvV (tdV d) s = 0 := by unfold fvV; rw [if_neg (by simp [hk])]
    rw [hk] at HK
    rw [e0]
    simp only [Int.add_zero]
    clear hk e0 HW
    generalize tbV b = B at *
    go_enter Try.func7, Try.ntmps7
    go_wp2_with (first
      | (go_at_call 20; refine (HK.out _).mono ?_; rintro e w' ⟨rfl, rfl⟩)
      | (go_at_call 23; refine (HB.out _).mono ?_; rintro e w' ⟨rfl, rfl⟩)
      | (go_at_call 21; refine (ref_within _ _ _ _).mono ?_; rintro e w' ⟨rfl, rfl⟩))
    all_goals go_ret2
    all_goals exact ⟨rfl, A1⟩
  · have HV := Lib.hid (fun w => r9_volume w (tdV d) s d0 d1 hk w (At.refl w))
    rw [hk] at HK
    clear hk
    generalize fvV (tdV d) s = F at *
    generalize tdV d = D at *
    generalize tbV b = B at *
    go_enter Try.func7, Try.ntmps7
    go_wp2_with (first
      | (go_at_call 20; refine (HK.out _).mono ?_; rintro e w' ⟨rfl, rfl⟩)
      | (go_at_call 21; ((with_reducible refine (HW.out _).mono ?_); rintro e w' ⟨rfl, rfl⟩))
      | (go_at_call 22; refine (HV.out _).mono ?_; rintro e w2 ⟨rfl, hb⟩; have A2 := below_call A1 hb; have B2 := B1.below hb; obtain ⟨c0, c1, c2, cf, cl⟩ := B2.three; clear B1 B2)
      | (go_at_call 23; refine (HB.out _).mono ?_; rintro e w' ⟨rfl, rfl⟩)
      | (go_at_call 21; ((with_reducible refine (ref_within _ _ _ _).mono ?_); rintro e w' ⟨rfl, rfl⟩)))
    all_goals go_ret2
    all_goals exact ⟨rfl, A2⟩

theorem to_add (s d b : Int) (w : World) : Calls Try.prog 10 #[.agg #[.int .i64 s, .int .i64 d, .int .i64 b]] w fun e w' => e = .returned (.agg #[.int .i64 s, .int .i64 (adV d), .int .i64 b]) ∧ Below w.heap.size w w' := by
  have ⟨d0, d1⟩ := td_bd d
  have HD := Lib.hid (fun w => to_drops s d b w)
  unfold adV
  have A0 : Below w.heap.size w w := Below.refl _ _
  generalize tdV d = D at *
  by_cases h : D + 1 ≤ 9007199254740
  · rw [if_pos h]
    go_enter Try.func10, Try.ntmps10
    go_wp2_with (fail)
    refine (HD.out _).mono ?_
    rintro e w1 ⟨rfl, hb⟩
    have A1 := below_call (below_alloc_on (below_alloc_on A0 (.cells #[.int .i64 s, .int .i64 d, .int .i64 b] 23)) (.cells #[.int .i64 0, .int .i64 0, .int .i64 0] 23)) hb
    have B1 := ((box_new w #[.int .i64 s, .int .i64 d, .int .i64 b] 23).alloc (.cells #[.int .i64 0, .int .i64 0, .int .i64 0] 23)).below hb
    have C1 := (box_at (w.alloc (.cells #[.int .i64 s, .int .i64 d, .int .i64 b] 23)) #[.int .i64 0, .int .i64 0, .int .i64 0] 23 (g := w.heap.size + 1) (by simp)).below hb
    clear hb
    obtain ⟨c0, c1, c2, cf, cl⟩ := B1.three
    obtain ⟨k0, k1, k2, kf, kl⟩ := C1.three
    go_wp2
    exact bodyPost_ret (v := .agg #[.int .i64 s, .int .i64 (D + 1), .int .i64 b]) (by simp [results, Try.results10, go_sem, k0, k1, k2]; omega) rfl ⟨rfl, by (repeat (first | (with_reducible exact Below.refl _ _) | (with_reducible assumption) | (with_reducible refine Near.up _ ?_) | (with_reducible refine below_alloc_on ?_ _) | (with_reducible refine below_set_on ?_ (by first | (simp; done) | (simp; omega) | omega) _)))⟩
  · rw [if_neg h]
    go_enter Try.func10, Try.ntmps10
    go_wp2_with (fail)
    refine (HD.out _).mono ?_
    rintro e w1 ⟨rfl, hb⟩
    have A1 := below_call (below_alloc_on (below_alloc_on A0 (.cells #[.int .i64 s, .int .i64 d, .int .i64 b] 23)) (.cells #[.int .i64 0, .int .i64 0, .int .i64 0] 23)) hb
    have B1 := ((box_new w #[.int .i64 s, .int .i64 d, .int .i64 b] 23).alloc (.cells #[.int .i64 0, .int .i64 0, .int .i64 0] 23)).below hb
    have C1 := (box_at (w.alloc (.cells #[.int .i64 s, .int .i64 d, .int .i64 b] 23)) #[.int .i64 0, .int .i64 0, .int .i64 0] 23 (g := w.heap.size + 1) (by simp)).below hb
    clear hb
    obtain ⟨c0, c1, c2, cf, cl⟩ := B1.three
    obtain ⟨k0, k1, k2, kf, kl⟩ := C1.three
    go_wp2
    exact bodyPost_ret (v := .agg #[.int .i64 s, .int .i64 9007199254740, .int .i64 b]) (by simp [results, Try.results10, go_sem, k0, k1, k2]; omega) rfl ⟨rfl, by (repeat (first | (with_reducible exact Below.refl _ _) | (with_reducible assumption) | (with_reducible refine Near.up _ ?_) | (with_reducible refine below_alloc_on ?_ _) | (with_reducible refine below_set_on ?_ (by first | (simp; done) | (simp; omega) | omega) _)))⟩
theorem rt_add (s d b : Int) (w : World) : Calls Try.prog 11 #[.agg #[.int .i64 s, .int .i64 d, .int .i64 b]] w fun e w' => e = .returned (.agg #[.int .i64 s, .int .i64 (adV d), .int .i64 b]) ∧ Below w.heap.size w w' := by
  rcases (by omega : d < 0 ∨ (0 ≤ d ∧ d ≤ 9007199254739) ∨ 9007199254739 < d) with h1 | ⟨h1, h2⟩ | h1
  · have e : adV d = 1 := by unfold adV tdV; rw [withK_1 (by omega) h1, if_pos (by omega)]; rfl
    rw [e]; clear e
    go_enter Try.func11, Try.ntmps11
    go_wp2
    exact bodyPost_ret (v := .agg #[.int .i64 s, .int .i64 1, .int .i64 b]) (by simp [results, Try.results11, go_sem]; omega) rfl ⟨rfl, by (repeat (first | (with_reducible exact Below.refl _ _) | (with_reducible assumption) | (with_reducible refine Near.up _ ?_) | (with_reducible refine below_alloc_on ?_ _) | (with_reducible refine below_set_on ?_ (by first | (simp; done) | (simp; omega) | omega) _)))⟩
  · have e : adV d = d + 1 := by unfold adV tdV; rw [withK_2 h1 (by omega), if_pos (by omega)]
    rw [e]; clear e
    go_enter Try.func11, Try.ntmps11
    go_wp2
    exact bodyPost_ret (v := .agg #[.int .i64 s, .int .i64 (d + 1), .int .i64 b]) (by simp [results, Try.results11, go_sem]; omega) rfl ⟨rfl, by (repeat (first | (with_reducible exact Below.refl _ _) | (with_reducible assumption) | (with_reducible refine Near.up _ ?_) | (with_reducible refine below_alloc_on ?_ _) | (with_reducible refine below_set_on ?_ (by first | (simp; done) | (simp; omega) | omega) _)))⟩
  · have e : adV d = 9007199254740 := by
      unfold adV tdV
      rcases (by omega : d = 9007199254740 ∨ 9007199254740 < d) with h | h
      · rw [h]; decide
      · rw [withK_3 (by omega) h]; decide
    rw [e]; clear e
    go_enter Try.func11, Try.ntmps11
    go_wp2
    exact bodyPost_ret (v := .agg #[.int .i64 s, .int .i64 9007199254740, .int .i64 b]) (by simp [results, Try.results11, go_sem]; omega) rfl ⟨rfl, by (repeat (first | (with_reducible exact Below.refl _ _) | (with_reducible assumption) | (with_reducible refine Near.up _ ?_) | (with_reducible refine below_alloc_on ?_ _) | (with_reducible refine below_set_on ?_ (by first | (simp; done) | (simp; omega) | omega) _)))⟩

/-- What the total of another set is. -/
def chS (n : Int) : Int := if knB n = true then n else 0
def chB (s d b n : Int) : Int := if knB n = true then voV s d b else 0
theorem to_change (s d b n : Int) (w : World) : Calls Try.prog 8 #[.agg #[.int .i64 s, .int .i64 d, .int .i64 b], .int .i64 n] w fun e w' => e = .returned (.tuple #[.agg #[.int .i64 (chS n), .int .i64 0, .int .i64 (chB s d b n)], .bool (knB n)]) ∧ Below w.heap.size w w' := by
  have HK := Lib.hid (fun w => ds_knB n w)
  have HV := Lib.hid (fun w => to_volume s d b w)
  unfold chS chB
  have A0 : Below w.heap.size w w := Below.refl _ _
  generalize voV s d b = V at *
  generalize voB s d b = vb at *
  cases hk : knB n
  · rw [hk] at HK
    rw [if_neg (by simp), if_neg (by simp)]
    clear hk
    go_enter Try.func8, Try.ntmps8
    go_wp2_with (go_at_call 24; refine (HK.out _).mono ?_; rintro e w' ⟨rfl, rfl⟩)
    exact bodyPost_ret (v := .tuple #[.agg #[.int .i64 0, .int .i64 0, .int .i64 0], .bool false]) (by simp [results, Try.results8, go_sem]) rfl ⟨rfl, by (repeat (first | (with_reducible exact Below.refl _ _) | (with_reducible assumption) | (with_reducible refine Near.up _ ?_) | (with_reducible refine below_alloc_on ?_ _) | (with_reducible refine below_set_on ?_ (by first | (simp; done) | (simp; omega) | omega) _)))⟩
  · rw [hk] at HK
    rw [if_pos rfl, if_pos rfl]
    clear hk
    go_enter Try.func8, Try.ntmps8
    go_wp2_with (go_at_call 24; refine (HK.out _).mono ?_; rintro e w' ⟨rfl, rfl⟩)
    go_wp2_with (fail)
    refine (HV.out _).mono ?_
    rintro e w1 ⟨rfl, hb⟩
    have A1 := below_call (below_alloc_on (below_alloc_on A0 (.cells #[.int .i64 s, .int .i64 d, .int .i64 b] 23)) (.cells #[.int .i64 0, .int .i64 0, .int .i64 0] 23)) hb
    have C1 := (box_at (w.alloc (.cells #[.int .i64 s, .int .i64 d, .int .i64 b] 23)) #[.int .i64 0, .int .i64 0, .int .i64 0] 23 (g := w.heap.size + 1) (by simp)).below hb
    clear hb
    obtain ⟨k0, k1, k2, kf, kl⟩ := C1.three
    go_wp2
    exact bodyPost_ret (v := .tuple #[.agg #[.int .i64 n, .int .i64 0, .int .i64 V], .bool true]) (by simp [results, Try.results8, go_sem, k0, k1, k2]) rfl ⟨rfl, by (repeat (first | (with_reducible exact Below.refl _ _) | (with_reducible assumption) | (with_reducible refine Near.up _ ?_) | (with_reducible refine below_alloc_on ?_ _) | (with_reducible refine below_set_on ?_ (by first | (simp; done) | (simp; omega) | omega) _)))⟩
theorem rt_change (s d b n : Int) (w : World) : Calls Try.prog 9 #[.agg #[.int .i64 s, .int .i64 d, .int .i64 b], .int .i64 n] w fun e w' => e = .returned (.tuple #[.agg #[.int .i64 (chS n), .int .i64 0, .int .i64 (chB s d b n)], .bool (knB n)]) ∧ Below w.heap.size w w' := by
  have HK := Lib.hid (fun w => ref9_known n w)
  have HV := Lib.hid (fun w => rt_volume s d b w)
  unfold chS chB
  have A0 : Below w.heap.size w w := Below.refl _ _
  generalize voV s d b = V at *
  generalize voB s d b = vb at *
  cases hk : knB n
  · rw [hk] at HK
    rw [if_neg (by simp), if_neg (by simp)]
    clear hk
    go_enter Try.func9, Try.ntmps9
    go_wp2_with (go_at_call 20; refine (HK.out _).mono ?_; rintro e w' ⟨rfl, rfl⟩)
    exact bodyPost_ret (v := .tuple #[.agg #[.int .i64 0, .int .i64 0, .int .i64 0], .bool false]) (by simp [results, Try.results9, go_sem]) rfl ⟨rfl, by (repeat (first | (with_reducible exact Below.refl _ _) | (with_reducible assumption) | (with_reducible refine Near.up _ ?_) | (with_reducible refine below_alloc_on ?_ _) | (with_reducible refine below_set_on ?_ (by first | (simp; done) | (simp; omega) | omega) _)))⟩
  · rw [hk] at HK
    rw [if_pos rfl, if_pos rfl]
    clear hk
    go_enter Try.func9, Try.ntmps9
    go_wp2_with (go_at_call 20; refine (HK.out _).mono ?_; rintro e w' ⟨rfl, rfl⟩)
    go_wp2_with (fail)
    refine (HV.out _).mono ?_
    rintro e w1 ⟨rfl, hb⟩
    have A1 := below_call (below_alloc_on (below_alloc_on A0 (.cells #[.int .i64 s, .int .i64 d, .int .i64 b] 23)) (.cells #[.int .i64 0, .int .i64 0, .int .i64 0] 23)) hb
    have C1 := (box_at (w.alloc (.cells #[.int .i64 s, .int .i64 d, .int .i64 b] 23)) #[.int .i64 0, .int .i64 0, .int .i64 0] 23 (g := w.heap.size + 1) (by simp)).below hb
    clear hb
    obtain ⟨k0, k1, k2, kf, kl⟩ := C1.three
    go_wp2
    exact bodyPost_ret (v := .tuple #[.agg #[.int .i64 n, .int .i64 0, .int .i64 V], .bool true]) (by simp [results, Try.results9, go_sem, k0, k1, k2]) rfl ⟨rfl, by (repeat (first | (with_reducible exact Below.refl _ _) | (with_reducible assumption) | (with_reducible refine Near.up _ ?_) | (with_reducible refine below_alloc_on ?_ _) | (with_reducible refine below_set_on ?_ (by first | (simp; done) | (simp; omega) | omega) _)))⟩

theorem to_reached (s d b ml : Int) (w : World) : Calls Try.prog 12 #[.agg #[.int .i64 s, .int .i64 d, .int .i64 b], .int .i64 ml] w fun e w' => e = .returned (.bool (reB s d b ml)) ∧ Below w.heap.size w w' := by
  have HV := Lib.hid (fun w => to_volume s d b w)
  unfold reB
  have A0 : Below w.heap.size w w := Below.refl _ _
  generalize voV s d b = V at *
  generalize voB s d b = vb at *
  cases vb
  all_goals
    go_enter Try.func12, Try.ntmps12
    go_wp2_with (fail)
    refine (HV.out _).mono ?_
    rintro e w1 ⟨rfl, hb⟩
    have A1 := below_call (below_alloc_on A0 (.cells #[.int .i64 s, .int .i64 d, .int .i64 b] 23)) hb
    clear hb
    go_wp2_with (go_at_call 25; refine (sat_mul _ _ _).mono ?_; rintro e w' ⟨rfl, rfl⟩)
    all_goals go_ret
    all_goals exact ⟨ret_b (by simp), A1⟩
theorem rt_reached (s d b ml : Int) (w : World) : Calls Try.prog 13 #[.agg #[.int .i64 s, .int .i64 d, .int .i64 b], .int .i64 ml] w fun e w' => e = .returned (.bool (reB s d b ml)) ∧ Below w.heap.size w w' := by
  have HV := Lib.hid (fun w => rt_volume s d b w)
  unfold reB
  have A0 : Below w.heap.size w w := Below.refl _ _
  generalize voV s d b = V at *
  generalize voB s d b = vb at *
  by_cases hm : mulV ml 1000 ≤ V
  · rw [decide_eq_true hm]
    have t1 := decide_eq_true hm
    go_enter Try.func13, Try.ntmps13
    go_wp2_with (fail)
    refine (HV.out _).mono ?_
    rintro e w1 ⟨rfl, hb⟩
    have A1 := below_call (below_alloc_on A0 (.cells #[.int .i64 s, .int .i64 d, .int .i64 b] 23)) hb
    clear hb
    go_wp2_with (go_at_call 26; refine (ref_mul _ _ _).mono ?_; rintro e w' ⟨rfl, rfl⟩)
    all_goals go_ret
    all_goals exact ⟨ret_b (by simp), A1⟩
  · rw [decide_eq_false hm]
    have t1 := decide_eq_false hm
    go_enter Try.func13, Try.ntmps13
    go_wp2_with (fail)
    refine (HV.out _).mono ?_
    rintro e w1 ⟨rfl, hb⟩
    have A1 := below_call (below_alloc_on A0 (.cells #[.int .i64 s, .int .i64 d, .int .i64 b] 23)) hb
    clear hb
    go_wp2_with (go_at_call 26; refine (ref_mul _ _ _).mono ?_; rintro e w' ⟨rfl, rfl⟩)
    all_goals go_ret
    all_goals exact ⟨ret_b (by simp), A1⟩
end Go.Proofs.Ytmjflkljgljnjaa
