/- Contracts of package guard: what each step needs. -/
import Derived.Test.YtmocppghmdeahaaGreatRate
import Derived.Test.YtmocppghmdeahaaGreatDrift
import Derived.Test.YtmocppghmdeahaaGreatLoss
import Derived.Test.YtmocppghmdeahaaGreatPost
import Derived.Test.YtmocppghmdeahaaGreatLatch
import Derived.Test.YtmocppghmdeahaaGreatPane
import Derived.Test.YtmocppghmdeahaaGreatWorld
import Derived.Test.YtmocppghmdeahaaGreatBx
import Derived.Test.YtmocppghmdeahaaGreatFan
import Derived.Deep.CutBlock
import Derived.Deep.DeepCutAuto
namespace Go.Proofs.YtmocppghmdeahaaGreat
open Go.RowKit
set_option linter.unusedVariables false
set_option linter.unusedSimpArgs false
set_option maxRecDepth 100000
attribute [local go_sem] cell_set_ite Near.cell Near.frozen
attribute [local go_sem ↓] Go.wp_at_zero Go.wp_at_succ

/-- What the guard is told of a tick. -/
structure Lk where
  t : Int
  m : Int
  r : Int
  v : Int
  s : Int
  dr : Bool
  sh : Bool
  st : Bool
  fa : Bool
  ad : Int
  ti : Int
  ba : Int
  en : Int
  od : Bool
  ke : Int
  wr : Bool
  bd : Int
  ra : Int
  kn : Bool
  ou : Int
  sl : Bool
  ov : Bool
  ak : Bool
def lkC (k : Lk) : Array Value := #[.int .i64 k.t, .int .i64 k.m, .int .i64 k.r, .int .i64 k.v, .int .i64 k.s, .bool k.dr, .bool k.sh, .bool k.st, .bool k.fa, .int .i64 k.ad, .int .i64 k.ti, .int .i64 k.ba, .int .i64 k.en, .bool k.od, .int .i64 k.ke, .bool k.wr, .int .i64 k.bd, .int .i64 k.ra, .bool k.kn, .int .i64 k.ou, .bool k.sl, .bool k.ov, .bool k.ak]

def inB (m : Int) : Bool := decide (m = 3 ∨ m = 5)
def paV (m r : Int) : Int := if m = 5 then min r 5 else r
def gaV (m r : Int) : Int := if inB m = true then glV (paV m r) else 0
def arV (m : Int) : Int := if m = 3 then 4095 else if m = 5 then 4091 else if m = 2 then 4032 else if m = 4 ∨ m = 6 ∨ m = 7 then 3842 else 3840
def hoB (r f : Int) : Bool := knB f && decide (1 ≤ r ∧ r ≤ 1000)
def liV (r f : Int) : Int := if hoB r f = true then r * f / 60 + 8 else 0
def toV (r f : Int) : Int := if hoB r f = true then 1440000 / (r * f) + 50 else 0
theorem in_ways (m : Int) : (m = 3 ∧ inB m = true) ∨ (m = 5 ∧ inB m = true) ∨ ((m == 3) = false ∧ (m == 5) = false ∧ inB m = false) := by
  by_cases h3 : m = 3
  · subst h3; exact .inl ⟨rfl, rfl⟩
  · by_cases h5 : m = 5
    · subst h5; exact .inr (.inl ⟨rfl, rfl⟩)
    · exact .inr (.inr ⟨by simpa using h3, by simpa using h5, by simp [inB, h3, h5]⟩)

theorem g_infuses (m : Int) (w : World) : Calls Tryz.prog 17 #[.int .i64 m] w fun e w' => e = .returned (.bool (inB m)) ∧ w = w' := by
  rcases in_ways m with ⟨rfl, h⟩ | ⟨rfl, h⟩ | ⟨h1, h2, h⟩
  all_goals
    rw [h]
    clear h
    go_enter Tryz.func17, Tryz.ntmps17
    go_wp2
    all_goals go_ret
    all_goals exact ⟨rfl, rfl⟩
theorem g_pace (m r v s : Int) (w : World) : Calls Tryz.prog 42 #[.int .i64 m, .agg #[.int .i64 r, .int .i64 v, .int .i64 s]] w fun e w' => e = .returned (.int .i64 (paV m r)) ∧ Below w.heap.size w w' := by
  unfold paV
  by_cases h : m = 5
  · subst h
    rw [if_pos rfl]
    rcases (by omega : r < 5 ∧ min r 5 = r ∨ 5 ≤ r ∧ min r 5 = 5) with ⟨h1, h2⟩ | ⟨h1, h2⟩
    all_goals
      rw [h2]
      clear h2
      go_enter Tryz.func42, Tryz.ntmps42
      go_wp2
      all_goals go_ret
      all_goals exact ⟨by simp <;> omega, by (repeat (first | (with_reducible exact Below.refl _ _) | (with_reducible assumption) | (with_reducible refine Near.up _ ?_) | (with_reducible refine Below.drew ?_) | (with_reducible refine below_alloc_on ?_ _) | (with_reducible refine below_set_on ?_ (by first | (simp; done) | (simp; omega) | omega) _)))⟩
  · rw [if_neg h]
    have h1 : (m == 5) = false := by simpa using h
    clear h
    go_enter Tryz.func42, Tryz.ntmps42
    go_wp2
    all_goals go_ret
    all_goals exact ⟨rfl, by (repeat (first | (with_reducible exact Below.refl _ _) | (with_reducible assumption) | (with_reducible refine Near.up _ ?_) | (with_reducible refine Below.drew ?_) | (with_reducible refine below_alloc_on ?_ _) | (with_reducible refine below_set_on ?_ (by first | (simp; done) | (simp; omega) | omega) _)))⟩
theorem g_goal (m r v s : Int) (w : World) : Calls Tryz.prog 10 #[.int .i64 m, .agg #[.int .i64 r, .int .i64 v, .int .i64 s]] w fun e w' => e = .returned (.int .i64 (gaV m r)) ∧ Below w.heap.size w w' := by
  have A : Below w.heap.size w w := Below.refl _ _
  have HI := Lib.hid (fun w => g_infuses m w)
  have HP := Lib.hid (fun w => g_pace m r v s w)
  have HG := Lib.hid (fun w => rt_goal (paV m r) w)
  unfold gaV
  generalize glV (paV m r) = G at *
  generalize paV m r = P at *
  cases hi : inB m
  · rw [hi] at HI
    rw [if_neg (by simp)]
    clear hi
    go_enter Tryz.func10, Tryz.ntmps10
    go_wp2_with (go_at_call 17; refine (HI.out _).mono ?_; rintro e w' ⟨rfl, rfl⟩)
    all_goals go_ret
    all_goals exact ⟨rfl, by (repeat (first | (with_reducible exact Below.refl _ _) | (with_reducible assumption) | (with_reducible refine Near.up _ ?_) | (with_reducible refine Below.drew ?_) | (with_reducible refine below_alloc_on ?_ _) | (with_reducible refine below_set_on ?_ (by first | (simp; done) | (simp; omega) | omega) _)))⟩
  · rw [hi] at HI
    rw [if_pos rfl]
    clear hi
    go_enter Tryz.func10, Tryz.ntmps10
    go_wp2_with (first
      | (go_at_call 17; refine (HI.out _).mono ?_; rintro e w' ⟨rfl, rfl⟩)
      | (go_at_call 42; refine (HP.out _).mono ?_; rintro e w' ⟨rfl, hb⟩)
      | (go_at_call 41; refine (HG.out _).mono ?_; rintro e w' ⟨rfl, rfl⟩))
    all_goals go_ret
    all_goals exact ⟨rfl, below_call (by (repeat (first | (with_reducible exact Below.refl _ _) | (with_reducible assumption) | (with_reducible refine Near.up _ ?_) | (with_reducible refine Below.drew ?_) | (with_reducible refine below_alloc_on ?_ _) | (with_reducible refine below_set_on ?_ (by first | (simp; done) | (simp; omega) | omega) _)))) hb⟩
theorem g_arm (m : Int) (w : World) : Calls Tryz.prog 8 #[.int .i64 m] w fun e w' => e = .returned (.int .i64 (arV m)) ∧ w = w' := by
  rcases (by omega : m = 3 ∨ m = 5 ∨ m = 2 ∨ m = 4 ∨ m = 6 ∨ m = 7 ∨ (¬ m = 3 ∧ ¬ m = 5 ∧ ¬ m = 2 ∧ ¬ m = 4 ∧ ¬ m = 6 ∧ ¬ m = 7)) with rfl | rfl | rfl | rfl | rfl | rfl | ⟨h3, h5, h2, h4, h6, h7⟩
  case inr.inr.inr.inr.inr.inr =>
    have e : arV m = 3840 := by unfold arV; rw [if_neg h3, if_neg h5, if_neg h2, if_neg (by omega)]
    rw [e]
    have g3 : (m == 3) = false := by simpa using h3
    have g5 : (m == 5) = false := by simpa using h5
    have g2 : (m == 2) = false := by simpa using h2
    have g4 : (m == 4) = false := by simpa using h4
    have g6 : (m == 6) = false := by simpa using h6
    have g7 : (m == 7) = false := by simpa using h7
    clear h3 h5 h2 h4 h6 h7 e
    go_enter Tryz.func8, Tryz.ntmps8
    go_wp2
    all_goals go_ret
    all_goals exact ⟨rfl, rfl⟩
  all_goals
    go_enter Tryz.func8, Tryz.ntmps8
    go_wp2
    all_goals go_ret
    all_goals exact ⟨rfl, rfl⟩

/-! ### dropset at any numbers -/
theorem ho_ways (r f : Int) : (hoB r f = true ∧ Kn f ∧ 1 ≤ r ∧ r ≤ 1000) ∨ (hoB r f = false ∧ knB f = false) ∨ (hoB r f = false ∧ Kn f ∧ (r < 1 ∨ (1 ≤ r ∧ 1000 < r))) := by
  unfold hoB
  cases h : knB f
  · exact .inr (.inl ⟨rfl, rfl⟩)
  · by_cases hr : 1 ≤ r ∧ r ≤ 1000
    · exact .inl ⟨by simp [hr], kn_of h, hr.1, hr.2⟩
    · exact .inr (.inr ⟨by simp; omega, kn_of h, by omega⟩)
theorem ds_hourly_no (r f : Int) (h : hoB r f = false) (w : World) : Calls Tryz.prog 45 #[.int .i64 r, .int .i64 f] w fun e w' => e = .returned (.tuple #[.int .i64 0, .bool false]) ∧ w = w' := by
  rcases ho_ways r f with ⟨h1, _⟩ | ⟨_, hk⟩ | ⟨_, hf, hr⟩
  · rw [h] at h1; cases h1
  · obtain ⟨a, b, c, d⟩ := kn_not hk
    exact ds_hourly_not r f a b c d w
  · have HF := Lib.hid hf
    clear hf h
    rcases hr with hr | ⟨hr, hr2⟩
    all_goals
      go_enter Tryz.func45, Tryz.ntmps45
      go_wp2_with (go_at_call 78; refine (ds_known _ HF.out _).mono ?_; rintro e w' ⟨rfl, rfl⟩)
      all_goals go_ret2
      all_goals exact ⟨rfl, rfl⟩
theorem ds_limit_any (r f : Int) (W w : World) (h : At W w) : Calls Tryz.prog 14 #[.int .i64 r, .int .i64 f] w fun e w' => e = .returned (.tuple #[.int .i64 (liV r f), .bool (hoB r f)]) ∧ At W w' := by
  unfold liV
  rcases ho_ways r f with ⟨hh, hf, h1, h2⟩ | hno
  · rw [hh, if_pos rfl]; exact ds_limit W r f hf h1 h2 w h
  · have hh : hoB r f = false := by rcases hno with ⟨a, _⟩ | ⟨a, _⟩ <;> exact a
    have HH := Lib.hid (ds_hourly_no r f hh w)
    rw [hh, if_neg (by simp)]
    clear hno hh
    go_enter Tryz.func14, Tryz.ntmps14
    go_wp2_with (go_at_call 45; refine HH.out.mono ?_; rintro e w' ⟨rfl, rfl⟩)
    all_goals go_ret2
    all_goals exact ⟨rfl, h⟩
theorem ds_timeout_any (r f : Int) (W w : World) (h : At W w) : Calls Tryz.prog 55 #[.int .i64 r, .int .i64 f] w fun e w' => e = .returned (.tuple #[.int .i64 (toV r f), .bool (hoB r f)]) ∧ At W w' := by
  unfold toV
  rcases ho_ways r f with ⟨hh, hf, h1, h2⟩ | hno
  · rw [hh, if_pos rfl]; exact ds_timeout W r f hf h1 h2 w h
  · have hh : hoB r f = false := by rcases hno with ⟨a, _⟩ | ⟨a, _⟩ <;> exact a
    have HH := Lib.hid (fun w => ds_hourly_no r f hh w)
    rw [hh, if_neg (by simp)]
    clear hno hh
    have HT : Hid (Calls Tryz.prog 90 #[.int .i64 4, .int .i64 r, .int .i64 f] w fun e w' => e = .returned (.tuple #[.int .i64 0, .bool false]) ∧ w = w') := by
      refine Lib.hid ?_
      go_enter Tryz.func90, Tryz.ntmps90
      go_wp2_with (go_at_call 45; refine (HH.out _).mono ?_; rintro e w' ⟨rfl, rfl⟩)
      all_goals go_ret2
      all_goals exact ⟨rfl, rfl⟩
    go_enter Tryz.func55, Tryz.ntmps55
    go_wp2_with (go_at_call 90; refine HT.out.mono ?_; rintro e w' ⟨rfl, rfl⟩)
    all_goals go_ret2
    all_goals exact ⟨rfl, h⟩

/-! ### starved, missed, latched, drifted -/
def svB (k : Lk) : Bool := decide (300 ≤ k.ou) && decide (mulV k.ra 2 < gaV k.m k.r)
set_option maxHeartbeats 2000000 in
theorem g_starved (k : Lk) (w : World) : Calls Tryz.prog 18 #[.agg (lkC k)] w fun e w' => e = .returned (.bool (svB k)) ∧ Below w.heap.size w w' := by
  have A : Below w.heap.size w w := Below.refl _ _
  have HG := Lib.hid (fun w => g_goal k.m k.r k.v k.s w)
  have HM := Lib.hid (fun w => sat_mul k.ra 2 w)
  unfold svB lkC
  generalize gaV k.m k.r = G at *
  generalize mulV k.ra 2 = M at *
  by_cases h : 300 ≤ k.ou
  · rw [decide_eq_true h, Bool.true_and]
    go_enter Tryz.func18, Tryz.ntmps18
    go_wp2_with (first
      | (go_at_call 49; refine (HM.out _).mono ?_; rintro e w' ⟨rfl, rfl⟩)
      | (go_at_call 10; refine (HG.out _).mono ?_; rintro e w' ⟨rfl, hb⟩))
    all_goals go_ret
    all_goals exact ⟨rfl, below_call (by (repeat (first | (with_reducible exact Below.refl _ _) | (with_reducible assumption) | (with_reducible refine Near.up _ ?_) | (with_reducible refine Below.drew ?_) | (with_reducible refine below_alloc_on ?_ _) | (with_reducible refine below_set_on ?_ (by first | (simp; done) | (simp; omega) | omega) _)))) hb⟩
  · rw [decide_eq_false h, Bool.false_and]
    have h2 : decide (300 ≤ k.ou) = false := decide_eq_false h
    go_enter Tryz.func18, Tryz.ntmps18
    go_wp2_with (go_at_call 49; refine (HM.out _).mono ?_; rintro e w' ⟨rfl, rfl⟩)
    all_goals go_ret
    all_goals exact ⟨rfl, by (repeat (first | (with_reducible exact Below.refl _ _) | (with_reducible assumption) | (with_reducible refine Near.up _ ?_) | (with_reducible refine Below.drew ?_) | (with_reducible refine below_alloc_on ?_ _) | (with_reducible refine below_set_on ?_ (by first | (simp; done) | (simp; omega) | omega) _)))⟩
def laV (was held : Int) (k : Lk) : Int := raV (if k.ak = true then acV was held else was) (bits .and .i64 held (arV k.m))
set_option maxHeartbeats 2000000 in
theorem g_latched (was held : Int) (k : Lk) (w : World) : Calls Tryz.prog 29 #[.int .i64 was, .int .i64 held, .agg (lkC k)] w fun e w' => e = .returned (.int .i64 (laV was held k)) ∧ Below w.heap.size w w' := by
  unfold laV lkC
  have HM := Lib.hid (fun w => g_arm k.m w)
  generalize arV k.m = M at *
  have HA := Lib.hid (fun w => lt_ack was held w)
  generalize acV was held = a at *
  have HR := Lib.hid (fun x y w => lt_raise x y w)
  cases hk : k.ak
  all_goals
    first | rw [if_pos rfl] | rw [if_neg (by simp)]
    go_enter Tryz.func29, Tryz.ntmps29
    go_wp2_with (first
      | (go_at_call 8; refine (HM.out _).mono ?_; rintro e w' ⟨rfl, rfl⟩)
      | (go_at_call 57; refine (HA.out _).mono ?_; rintro e w' ⟨rfl, rfl⟩)
      | (go_at_call 58; refine (HR.out _ _ _).mono ?_; rintro e w' ⟨rfl, rfl⟩))
    all_goals go_ret
    all_goals exact ⟨rfl, by (repeat (first | (with_reducible exact Below.refl _ _) | (with_reducible assumption) | (with_reducible refine Near.up _ ?_) | (with_reducible refine Below.drew ?_) | (with_reducible refine below_alloc_on ?_ _) | (with_reducible refine below_set_on ?_ (by first | (simp; done) | (simp; omega) | omega) _)))⟩
def drA (d0 d1 : Int) (k : Lk) : Int := if inB k.m = true then (if k.dr = true then drO d0 (gaV k.m k.r) k.ra k.kn else d0) else 0
def drB (d0 d1 : Int) (k : Lk) : Int := if inB k.m = true then (if k.dr = true then drU d1 (gaV k.m k.r) k.ra k.kn else d1) else 0
set_option maxHeartbeats 2000000 in
theorem g_drifted (d0 d1 : Int) (k : Lk) (w : World) : Calls Tryz.prog 15 #[.agg #[.int .i64 d0, .int .i64 d1], .agg (lkC k)] w fun e w' => e = .returned (.agg #[.int .i64 (drA d0 d1 k), .int .i64 (drB d0 d1 k)]) ∧ Below w.heap.size w w' := by
  have HI := Lib.hid (fun w => g_infuses k.m w)
  have HG := Lib.hid (fun w => g_goal k.m k.r k.v k.s w)
  have HD := Lib.hid (fun w => dr_step d0 d1 (gaV k.m k.r) k.ra k.kn w)
  unfold drA drB lkC
  generalize drO d0 (gaV k.m k.r) k.ra k.kn = x at *
  generalize drU d1 (gaV k.m k.r) k.ra k.kn = y at *
  generalize gaV k.m k.r = G at *
  cases hi : inB k.m
  · rw [hi] at HI
    rw [if_neg (by simp), if_neg (by simp)]
    clear hi
    go_enter Tryz.func15, Tryz.ntmps15
    go_wp2_with (go_at_call 17; refine (HI.out _).mono ?_; rintro e w' ⟨rfl, rfl⟩)
    refine bodyPost_ret (v := .agg #[.int .i64 0, .int .i64 0]) (by simp [results, Tryz.results15, go_sem]) rfl ⟨rfl, by (repeat (first | (with_reducible exact Below.refl _ _) | (with_reducible assumption) | (with_reducible refine Near.up _ ?_) | (with_reducible refine Below.drew ?_) | (with_reducible refine below_alloc_on ?_ _) | (with_reducible refine below_set_on ?_ (by first | (simp; done) | (simp; omega) | omega) _)))⟩
  · rw [hi] at HI
    rw [if_pos rfl, if_pos rfl]
    clear hi
    cases hd : k.dr
    · rw [if_neg (by simp), if_neg (by simp)]
      go_enter Tryz.func15, Tryz.ntmps15
      go_wp2_with (go_at_call 17; refine (HI.out _).mono ?_; rintro e w' ⟨rfl, rfl⟩)
      refine bodyPost_ret (v := .agg #[.int .i64 d0, .int .i64 d1]) (by simp [results, Tryz.results15, go_sem]) rfl ⟨rfl, by (repeat (first | (with_reducible exact Below.refl _ _) | (with_reducible assumption) | (with_reducible refine Near.up _ ?_) | (with_reducible refine Below.drew ?_) | (with_reducible refine below_alloc_on ?_ _) | (with_reducible refine below_set_on ?_ (by first | (simp; done) | (simp; omega) | omega) _)))⟩
    · rw [if_pos rfl, if_pos rfl]
      go_enter Tryz.func15, Tryz.ntmps15
      go_wp2_with (go_at_call 17; refine (HI.out _).mono ?_; rintro e w' ⟨rfl, rfl⟩)
      refine wp_region_calm_tail 11 (by kernel_rfl) (by kernel_rfl) ?_
      simp only [List.take_succ_cons, List.take_zero, List.drop_succ_cons, List.drop_zero]
      repeat (go_big_quiet_step (((first | (go_at_call 10; exact calm_of _ (HG.out _)) | (go_at_call 47; exact calm_of _ (HD.out _))))))
      refine wpQuiet_nil ?_
      intro _ hw'
      obtain ⟨u, rfl⟩ := hw'
      go_wp2
      exact bodyPost_ret (v := .agg #[.int .i64 x, .int .i64 y]) (by simp [results, Tryz.results15, go_sem]) rfl ⟨rfl, by (repeat (first | (with_reducible exact Below.refl _ _) | (with_reducible assumption) | (with_reducible refine Near.up _ ?_) | (with_reducible refine Below.drew ?_) | (with_reducible refine below_alloc_on ?_ _) | (with_reducible refine below_set_on ?_ (by first | (simp; done) | (simp; omega) | omega) _)))⟩
def miB (n : Int) (k : Lk) : Bool := hoB (paV k.m k.r) k.s && ltB n (toV (paV k.m k.r) k.s)
set_option maxHeartbeats 2000000 in
theorem g_missed (n v : Int) (k : Lk) (w : World) : Calls Tryz.prog 25 #[.agg #[.int .i64 n, .int .i64 v], .agg (lkC k)] w fun e w' => e = .returned (.bool (miB n k)) ∧ Below w.heap.size w w' := by
  have HP := Lib.hid (fun w => g_pace k.m k.r k.v k.s w)
  have HT := Lib.hid (fun w => ds_timeout_any (paV k.m k.r) k.s w w (At.refl w))
  have HL := Lib.hid (fun w => lo_lost n v (toV (paV k.m k.r) k.s) w)
  unfold miB lkC
  generalize ltB n (toV (paV k.m k.r) k.s) = L at *
  generalize toV (paV k.m k.r) k.s = T at *
  cases ho : hoB (paV k.m k.r) k.s
  all_goals
    rw [ho] at HT
    first | rw [Bool.true_and] | rw [Bool.false_and]
    clear ho
    generalize paV k.m k.r = P at *
    go_enter Tryz.func25, Tryz.ntmps25
    go_upto_region 1 with (fail)
    refine wp_region_calm_fan 9 _ _ rfl rfl (by kernel_rfl) (by kernel_rfl) (fun _ _ _ _ h => h) (fun _ _ _ _ h => h) ?_
    simp only [List.take_succ_cons, List.take_zero, List.drop_succ_cons, List.drop_zero]
    repeat (go_big_quiet_step ((first | ((go_at_call 42; exact calm_of _ (HP.out _))) | ((go_at_call 55; exact calm_of _ (HT.out _))))))
    refine wpQuiet_nil ?_
    apply Exists.intro
    apply Exists.intro
    refine ⟨Or.inl ⟨rfl, fun w => ?_⟩, Or.inl ⟨rfl, fun w => ?_⟩, ?_⟩
    · go_simp
      rfl
    · go_simp
      rfl
    intro _ hw'
    obtain ⟨u, rfl⟩ := hw'
    have A2 : Below w.heap.size w u.at_ := by (repeat (first | (with_reducible exact Below.refl _ _) | (with_reducible assumption) | (with_reducible refine Near.up _ ?_) | (with_reducible refine Below.drew ?_) | (with_reducible refine below_alloc_on ?_ _) | (with_reducible refine below_set_on ?_ (by first | (simp; done) | (simp; omega) | omega) _)))
    go_wp2_with (go_at_call 56; refine (HL.out _).mono ?_; rintro e w' ⟨rfl, hb⟩)
    all_goals go_ret
    all_goals first | exact ⟨rfl, below_call A2 hb⟩ | exact ⟨rfl, A2⟩
end Go.Proofs.YtmocppghmdeahaaGreat
