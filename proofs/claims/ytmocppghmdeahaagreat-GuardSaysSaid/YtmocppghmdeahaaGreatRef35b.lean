/- The document's answers for the guard: what is armed, the goal, how it drifts, what is held. -/
import Derived.Test.YtmocppghmdeahaaGreatRef35a
import Derived.Test.YtmocppghmdeahaaGreatRef34
namespace Go.Proofs.YtmocppghmdeahaaGreat
open Go.RowKit
set_option linter.unusedVariables false
set_option linter.unusedSimpArgs false
set_option maxRecDepth 100000
attribute [local go_sem] cell_set_ite Near.cell Near.frozen
attribute [local go_sem ↓] Go.wp_at_zero Go.wp_at_succ

theorem r35_infuses (m : Int) (w : World) : Calls Tryz.prog 34 #[.int .i64 m] w fun e w' => e = .returned (.bool (inB m)) ∧ w = w' := by
  rcases in_ways m with ⟨rfl, h⟩ | ⟨rfl, h⟩ | ⟨h1, h2, h⟩
  all_goals
    rw [h]
    clear h
    go_enter Tryz.func34, Tryz.ntmps34
    go_wp2
    all_goals go_ret
    all_goals exact ⟨rfl, rfl⟩
theorem r35_pace (m r v s : Int) (w : World) : Calls Tryz.prog 44 #[.int .i64 m, .agg #[.int .i64 r, .int .i64 v, .int .i64 s]] w fun e w' => e = .returned (.int .i64 (paV m r)) ∧ Below w.heap.size w w' := by
  unfold paV
  by_cases h : m = 5
  · subst h
    rw [if_pos rfl]
    rcases (by omega : r < 5 ∧ min r 5 = r ∨ 5 ≤ r ∧ min r 5 = 5) with ⟨h1, h2⟩ | ⟨h1, h2⟩
    all_goals
      rw [h2]
      clear h2
      go_enter Tryz.func44, Tryz.ntmps44
      go_wp2
      all_goals go_ret
      all_goals exact ⟨by simp <;> omega, by (repeat (first | (with_reducible exact Below.refl _ _) | (with_reducible assumption) | (with_reducible refine Near.up _ ?_) | (with_reducible refine Below.drew ?_) | (with_reducible refine below_alloc_on ?_ _) | (with_reducible refine below_set_on ?_ (by first | (simp; done) | (simp; omega) | omega) _)))⟩
  · rw [if_neg h]
    have h1 : (m == 5) = false := by simpa using h
    clear h
    go_enter Tryz.func44, Tryz.ntmps44
    go_wp2
    all_goals go_ret
    all_goals exact ⟨rfl, by (repeat (first | (with_reducible exact Below.refl _ _) | (with_reducible assumption) | (with_reducible refine Near.up _ ?_) | (with_reducible refine Below.drew ?_) | (with_reducible refine below_alloc_on ?_ _) | (with_reducible refine below_set_on ?_ (by first | (simp; done) | (simp; omega) | omega) _)))⟩
theorem r35_goal (m r v s : Int) (w : World) : Calls Tryz.prog 11 #[.int .i64 m, .agg #[.int .i64 r, .int .i64 v, .int .i64 s]] w fun e w' => e = .returned (.int .i64 (gaV m r)) ∧ Below w.heap.size w w' := by
  have A : Below w.heap.size w w := Below.refl _ _
  have HI := Lib.hid (fun w => r35_infuses m w)
  have HP := Lib.hid (fun w => r35_pace m r v s w)
  have HG := Lib.hid (fun w => ref_goal (paV m r) w)
  unfold gaV
  generalize glV (paV m r) = G at *
  generalize paV m r = P at *
  cases hi : inB m
  · rw [hi] at HI
    rw [if_neg (by simp)]
    clear hi
    go_enter Tryz.func11, Tryz.ntmps11
    go_wp2_with (go_at_call 34; refine (HI.out _).mono ?_; rintro e w' ⟨rfl, rfl⟩)
    all_goals go_ret
    all_goals exact ⟨rfl, by (repeat (first | (with_reducible exact Below.refl _ _) | (with_reducible assumption) | (with_reducible refine Near.up _ ?_) | (with_reducible refine Below.drew ?_) | (with_reducible refine below_alloc_on ?_ _) | (with_reducible refine below_set_on ?_ (by first | (simp; done) | (simp; omega) | omega) _)))⟩
  · rw [hi] at HI
    rw [if_pos rfl]
    clear hi
    go_enter Tryz.func11, Tryz.ntmps11
    go_wp2_with (first
      | (go_at_call 34; refine (HI.out _).mono ?_; rintro e w' ⟨rfl, rfl⟩)
      | (go_at_call 44; refine (HP.out _).mono ?_; rintro e w' ⟨rfl, hb⟩)
      | (go_at_call 43; refine (HG.out _).mono ?_; rintro e w' ⟨rfl, rfl⟩))
    all_goals go_ret
    all_goals exact ⟨rfl, below_call (by (repeat (first | (with_reducible exact Below.refl _ _) | (with_reducible assumption) | (with_reducible refine Near.up _ ?_) | (with_reducible refine Below.drew ?_) | (with_reducible refine below_alloc_on ?_ _) | (with_reducible refine below_set_on ?_ (by first | (simp; done) | (simp; omega) | omega) _)))) hb⟩
theorem r35_arm (m : Int) (w : World) : Calls Tryz.prog 9 #[.int .i64 m] w fun e w' => e = .returned (.int .i64 (arV m)) ∧ w = w' := by
  have HI := Lib.hid (fun w => r35_infuses m w)
  have o1 : bits .or .i64 3840 57 = 3897 := by decide +kernel
  have o2 : bits .or .i64 3897 4 = 3901 := by decide +kernel
  have o3 : bits .or .i64 3901 192 = 4093 := by decide +kernel
  have o4 : bits .or .i64 4093 2 = 4095 := by decide +kernel
  have o5 : bits .or .i64 3897 192 = 4089 := by decide +kernel
  have o6 : bits .or .i64 4089 2 = 4091 := by decide +kernel
  have o7 : bits .or .i64 3840 192 = 4032 := by decide +kernel
  have o8 : bits .or .i64 3840 2 = 3842 := by decide +kernel
  rcases (by omega : m = 3 ∨ m = 5 ∨ m = 2 ∨ m = 4 ∨ m = 6 ∨ m = 7 ∨ (¬ m = 3 ∧ ¬ m = 5 ∧ ¬ m = 2 ∧ ¬ m = 4 ∧ ¬ m = 6 ∧ ¬ m = 7)) with rfl | rfl | rfl | rfl | rfl | rfl | ⟨h3, h5, h2, h4, h6, h7⟩
  case inr.inr.inr.inr.inr.inr =>
    have e : arV m = 3840 := by unfold arV; rw [if_neg h3, if_neg h5, if_neg h2, if_neg (by omega)]
    rw [e]
    rw [show inB m = false by unfold inB; simp [h3, h5]] at HI
    have g3 : (m == 3) = false := by simpa using h3
    have g2 : (m == 2) = false := by simpa using h2
    have g4 : (m == 4) = false := by simpa using h4
    have g6 : (m == 6) = false := by simpa using h6
    have g7 : (m == 7) = false := by simpa using h7
    clear h3 h5 h2 h4 h6 h7 e
    go_enter Tryz.func9, Tryz.ntmps9
    go_wp2_with (go_at_call 34; refine (HI.out _).mono ?_; rintro e w' ⟨rfl, rfl⟩)
    all_goals go_ret
    all_goals exact ⟨rfl, rfl⟩
  all_goals
    first
      | rw [show inB 3 = true from rfl] at HI
      | rw [show inB 5 = true from rfl] at HI
      | rw [show inB 2 = false from rfl] at HI
      | rw [show inB 4 = false from rfl] at HI
      | rw [show inB 6 = false from rfl] at HI
      | rw [show inB 7 = false from rfl] at HI
    go_enter Tryz.func9, Tryz.ntmps9
    go_wp2_with (go_at_call 34; refine (HI.out _).mono ?_; rintro e w' ⟨rfl, rfl⟩)
    all_goals go_ret
    all_goals exact ⟨rfl, rfl⟩
theorem r35_fresh (d0 d1 l0 l1 p0 p1 la : Int) (B : Option Addr) (m d : Nat) (w : World) :
    Calls Tryz.prog 13 #[.agg #[.int .i64 d0, .int .i64 d1, .int .i64 l0, .int .i64 l1, .int .i64 p0, .int .i64 p1, .slice B m d, .int .i64 la]] w fun e w' => e = .returned (.agg #[.int .i64 0, .int .i64 0, .int .i64 0, .int .i64 0, .int .i64 p0, .int .i64 p1, .slice none 0 0, .int .i64 la]) ∧ Below w.heap.size w w' := by
  have A0 : Below w.heap.size w w := Below.refl _ _
  go_enter Tryz.func13, Tryz.ntmps13
  go_wp2
  exact bodyPost_ret (v := .agg #[.int .i64 0, .int .i64 0, .int .i64 0, .int .i64 0, .int .i64 p0, .int .i64 p1, .slice none 0 0, .int .i64 la]) (by simp [results, Tryz.results13, go_sem]) rfl ⟨rfl, by (repeat (first | (with_reducible exact Below.refl _ _) | (with_reducible assumption) | (with_reducible refine Near.up _ ?_) | (with_reducible refine Below.drew ?_) | (with_reducible refine below_alloc_on ?_ _) | (with_reducible refine below_set_on ?_ (by first | (simp; done) | (simp; omega) | omega) _)))⟩
theorem g_fresh35 (d0 d1 l0 l1 p0 p1 la : Int) (B : Option Addr) (m d : Nat) (w : World) :
    Calls Tryz.prog 12 #[.agg #[.int .i64 d0, .int .i64 d1, .int .i64 l0, .int .i64 l1, .int .i64 p0, .int .i64 p1, .slice B m d, .int .i64 la]] w fun e w' => e = .returned (.agg #[.int .i64 0, .int .i64 0, .int .i64 0, .int .i64 0, .int .i64 p0, .int .i64 p1, .slice none 0 0, .int .i64 la]) ∧ Below w.heap.size w w' := by
  have A0 : Below w.heap.size w w := Below.refl _ _
  go_enter Tryz.func12, Tryz.ntmps12
  go_wp2
  exact bodyPost_ret (v := .agg #[.int .i64 0, .int .i64 0, .int .i64 0, .int .i64 0, .int .i64 p0, .int .i64 p1, .slice none 0 0, .int .i64 la]) (by simp [results, Tryz.results12, go_sem]) rfl ⟨rfl, by (repeat (first | (with_reducible exact Below.refl _ _) | (with_reducible assumption) | (with_reducible refine Near.up _ ?_) | (with_reducible refine Below.drew ?_) | (with_reducible refine below_alloc_on ?_ _) | (with_reducible refine below_set_on ?_ (by first | (simp; done) | (simp; omega) | omega) _)))⟩
def whnV (b : Bool) (h : Int) : Int := if b = true then h else 0
theorem r35_when (b : Bool) (h : Int) (w : World) : Calls Tryz.prog 68 #[.bool b, .int .i64 h] w fun e w' => e = .returned (.int .i64 (whnV b h)) ∧ w = w' := by
  unfold whnV
  cases b
  all_goals
    go_enter Tryz.func68, Tryz.ntmps68
    go_wp2
    all_goals go_ret
    all_goals exact ⟨rfl, rfl⟩
theorem below_of {f : FuncId} {args : Array Value} {v : Value} {w : World} (h : Calls Tryz.prog f args w fun e w' => e = .returned v ∧ w = w') : Calls Tryz.prog f args w fun e w' => e = .returned v ∧ Below w.heap.size w w' :=
  h.mono fun e w' h => ⟨h.1, h.2 ▸ Below.refl _ _⟩
def orI (a b : Int) : Int := bits .or .i64 a b
def heR (b0 b1 b2 b3 b4 b5 b6 b7 b8 b9 ba bb : Bool) : Int :=
  orI (orI (orI (orI (orI (orI (orI (whnV b0 1) (whnV b1 2)) (orI (whnV b2 4) (whnV b3 8))) (orI (whnV b4 16) (whnV b5 32))) (orI (orI (whnV b6 64) (whnV b7 128)) (whnV b8 256))) (whnV b9 512)) (whnV ba 1024)) (whnV bb 2048)
set_option maxHeartbeats 2000000 in
theorem r35_drifts (d0 d1 : Int) (k : Lk) (w : World) : Calls Tryz.prog 32 #[.agg #[.int .i64 d0, .int .i64 d1], .agg (lkC k)] w fun e w' => e = .returned (.agg #[.int .i64 (drA d0 d1 k), .int .i64 (drB d0 d1 k)]) ∧ Below w.heap.size w w' := by
  have HI := Lib.hid (fun w => r35_infuses k.m w)
  have HG := Lib.hid (fun w => r35_goal k.m k.r k.v k.s w)
  have HD := Lib.hid (fun w => rd_step d0 d1 (gaV k.m k.r) k.ra k.kn w)
  unfold drA drB lkC
  generalize drO d0 (gaV k.m k.r) k.ra k.kn = x at *
  generalize drU d1 (gaV k.m k.r) k.ra k.kn = y at *
  generalize gaV k.m k.r = G at *
  cases hi : inB k.m
  · rw [hi] at HI
    rw [if_neg (by simp), if_neg (by simp)]
    clear hi
    go_enter Tryz.func32, Tryz.ntmps32
    go_wp2_with (go_at_call 34; refine (HI.out _).mono ?_; rintro e w' ⟨rfl, rfl⟩)
    refine bodyPost_ret (v := .agg #[.int .i64 0, .int .i64 0]) (by simp [results, Tryz.results32, go_sem]) rfl ⟨rfl, by (repeat (first | (with_reducible exact Below.refl _ _) | (with_reducible assumption) | (with_reducible refine Near.up _ ?_) | (with_reducible refine Below.drew ?_) | (with_reducible refine below_alloc_on ?_ _) | (with_reducible refine below_set_on ?_ (by first | (simp; done) | (simp; omega) | omega) _)))⟩
  · rw [hi] at HI
    rw [if_pos rfl, if_pos rfl]
    clear hi
    cases hd : k.dr
    · rw [if_neg (by simp), if_neg (by simp)]
      go_enter Tryz.func32, Tryz.ntmps32
      go_wp2_with (go_at_call 34; refine (HI.out _).mono ?_; rintro e w' ⟨rfl, rfl⟩)
      refine bodyPost_ret (v := .agg #[.int .i64 d0, .int .i64 d1]) (by simp [results, Tryz.results32, go_sem]) rfl ⟨rfl, by (repeat (first | (with_reducible exact Below.refl _ _) | (with_reducible assumption) | (with_reducible refine Near.up _ ?_) | (with_reducible refine Below.drew ?_) | (with_reducible refine below_alloc_on ?_ _) | (with_reducible refine below_set_on ?_ (by first | (simp; done) | (simp; omega) | omega) _)))⟩
    · rw [if_pos rfl, if_pos rfl]
      go_enter Tryz.func32, Tryz.ntmps32
      go_wp2_with (go_at_call 34; refine (HI.out _).mono ?_; rintro e w' ⟨rfl, rfl⟩)
      refine wp_region_calm_tail 11 (by kernel_rfl) (by kernel_rfl) ?_
      simp only [List.take_succ_cons, List.take_zero, List.drop_succ_cons, List.drop_zero]
      repeat (go_big_quiet_step (((first | (go_at_call 11; exact calm_of _ (HG.out _)) | (go_at_call 61; exact calm_of _ (HD.out _))))))
      refine wpQuiet_nil ?_
      intro _ hw'
      obtain ⟨u, rfl⟩ := hw'
      go_wp2
      exact bodyPost_ret (v := .agg #[.int .i64 x, .int .i64 y]) (by simp [results, Tryz.results32, go_sem]) rfl ⟨rfl, by (repeat (first | (with_reducible exact Below.refl _ _) | (with_reducible assumption) | (with_reducible refine Near.up _ ?_) | (with_reducible refine Below.drew ?_) | (with_reducible refine below_alloc_on ?_ _) | (with_reducible refine below_set_on ?_ (by first | (simp; done) | (simp; omega) | omega) _)))⟩
end Go.Proofs.YtmocppghmdeahaaGreat
