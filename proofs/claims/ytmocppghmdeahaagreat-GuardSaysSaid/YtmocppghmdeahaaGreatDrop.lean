/- Contracts of package dropset, of arguments within what the laws take; and the law package's own. -/
import Derived.Test.YtmocppghmdeahaaGreatQLaw
import Derived.Test.YtmocppghmdeahaaGreatLift
namespace Go.Proofs.YtmocppghmdeahaaGreat
set_option maxRecDepth 100000
open Go.RowKit
set_option linter.unusedVariables false
set_option linter.unusedSimpArgs false

/-- A set that is known. -/
def Kn (f : Int) : Prop := f = 10 ∨ f = 15 ∨ f = 20 ∨ f = 60
theorem clV_lit {n : Int} (h0 : -9007199254740992 ≤ n) (h1 : n ≤ 9007199254740992) : clV n = n := clV_in (by omega)
theorem flo_pos {x y : Int} (hy : 0 < y) : flo x y = x / y := by unfold flo; rw [if_pos hy]
theorem flV_small {a b : Int} (a0 : -9007199254740992 ≤ a) (a1 : a ≤ 9007199254740992) (b0 : 0 < b) (b1 : b ≤ 9007199254740992) : flV a b = a / b := by
  unfold flV; rw [clV_lit a0 a1, clV_lit (by omega) b1, if_neg (by omega), flo_pos b0]
theorem nzB_small {b : Int} (b0 : 0 < b) (b1 : b ≤ 9007199254740992) : nzB b = true := by
  unfold nzB; rw [clV_lit (by omega) b1]; simp; omega
theorem mq_small {a b c : Int} (a0 : -9007199254740992 ≤ a) (a1 : a ≤ 9007199254740992) (b0 : -9007199254740992 ≤ b) (b1 : b ≤ 9007199254740992) (c0 : 0 < c) (c1 : c ≤ 9007199254740992)
    (h0 : -9007199254740992 ≤ a * b / c) (h1 : a * b / c ≤ 9007199254740992) : mqV a b c = a * b / c ∧ mqE a b c = 0 := by
  unfold mqV mqE
  rw [clV_lit a0 a1, clV_lit b0 b1, clV_lit (by omega) c1, if_neg (by omega), if_neg (by omega), flo_pos c0, clV_lit h0 h1, clB_in (by omega)]
  exact ⟨rfl, rfl⟩

theorem ds_known (f : Int) (hf : Kn f) (w : World) :
    Calls Tryz.prog 78 #[.int .i64 f] w fun e w' => e = .returned (.bool true) ∧ w = w' := by
  rcases hf with rfl | rfl | rfl | rfl
  all_goals
    go_enter Tryz.func78, Tryz.ntmps78
    go_wp2
    all_goals go_ret
    all_goals exact ⟨rfl, rfl⟩
theorem ds_known_not (f : Int) (h0 : (f == 10) = false) (h1 : (f == 15) = false) (h2 : (f == 20) = false) (h3 : (f == 60) = false) (w : World) :
    Calls Tryz.prog 78 #[.int .i64 f] w fun e w' => e = .returned (.bool false) ∧ w = w' := by
  go_enter Tryz.func78, Tryz.ntmps78
  go_wp2
  all_goals go_ret
  all_goals exact ⟨rfl, rfl⟩

theorem ds_hourly (r f : Int) (hf : Kn f) (r0 : 1 ≤ r) (r1 : r ≤ 1000) (w : World) :
    Calls Tryz.prog 45 #[.int .i64 r, .int .i64 f] w fun e w' => e = .returned (.tuple #[.int .i64 (r * f), .bool true]) ∧ w = w' := by
  have HF := Lib.hid hf
  have ⟨p0, p1⟩ : 0 ≤ r * f ∧ r * f ≤ 60000 := by rcases hf with rfl | rfl | rfl | rfl <;> omega
  clear hf
  go_enter Tryz.func45, Tryz.ntmps45
  go_wp2_with (go_at_call 78; refine (ds_known _ HF.out _).mono ?_; rintro e w' ⟨rfl, rfl⟩)
  all_goals go_ret2
  all_goals exact ⟨rfl, rfl⟩
theorem ds_hourly_not (r f : Int) (h0 : (f == 10) = false) (h1 : (f == 15) = false) (h2 : (f == 20) = false) (h3 : (f == 60) = false) (w : World) :
    Calls Tryz.prog 45 #[.int .i64 r, .int .i64 f] w fun e w' => e = .returned (.tuple #[.int .i64 0, .bool false]) ∧ w = w' := by
  go_enter Tryz.func45, Tryz.ntmps45
  go_wp2_with (go_at_call 78; refine (ds_known_not _ h0 h1 h2 h3 _).mono ?_; rintro e w' ⟨rfl, rfl⟩)
  all_goals go_ret2
  all_goals exact ⟨rfl, rfl⟩

theorem hour_in {r f : Int} (hf : Kn f) (r0 : 1 ≤ r) (r1 : r ≤ 1000) : 10 ≤ r * f ∧ r * f ≤ 60000 := by rcases hf with rfl | rfl | rfl | rfl <;> omega

theorem ds_ticks (W : World) (t r f : Int) (hf : Kn f) (r0 : 1 ≤ r) (r1 : r ≤ 1000) (t0 : 1 ≤ t) (t1 : t ≤ 4) (w : World) (h : At W w) :
    Calls Tryz.prog 90 #[.int .i64 t, .int .i64 r, .int .i64 f] w fun e w' => e = .returned (.tuple #[.int .i64 (t * 360000 / (r * f)), .bool true]) ∧ At W w' := by
  have ⟨p0, p1⟩ := hour_in hf r0 r1
  have hM := l_floor (t * 360000) (r * f) W w h
  rw [flV_small (by omega) (by omega) (by omega) (by omega), nzB_small (by omega) (by omega)] at hM
  have HH := Lib.hid (ds_hourly r f hf r0 r1 w)
  have HM := Lib.hid hM
  clear hM hf
  generalize r * f = D at *
  go_enter Tryz.func90, Tryz.ntmps90
  go_wp2_with (first
    | (go_at_call 45; refine HH.out.mono ?_; rintro e w' ⟨rfl, rfl⟩)
    | (go_at_call 103; refine HM.out.mono ?_; rintro e w' ⟨rfl, hb⟩))
  all_goals go_ret2
  all_goals exact ⟨rfl, by assumption⟩

theorem ds_timeout (W : World) (r f : Int) (hf : Kn f) (r0 : 1 ≤ r) (r1 : r ≤ 1000) (w : World) (h : At W w) :
    Calls Tryz.prog 55 #[.int .i64 r, .int .i64 f] w fun e w' => e = .returned (.tuple #[.int .i64 (1440000 / (r * f) + 50), .bool true]) ∧ At W w' := by
  have ⟨p0, p1⟩ := hour_in hf r0 r1
  have HT := Lib.hid (ds_ticks W 4 r f hf r0 r1 (by omega) (by omega) w h)
  have ⟨q0, q1⟩ : 0 ≤ 1440000 / (r * f) ∧ 1440000 / (r * f) ≤ 1440000 := ⟨Int.ediv_nonneg (by omega) (by omega), Int.ediv_le_self _ (by omega)⟩
  rw [show (4 : Int) * 360000 = 1440000 from rfl] at HT
  generalize 1440000 / (r * f) = Q at *
  clear hf p0 p1
  go_enter Tryz.func55, Tryz.ntmps55
  go_wp2_with (go_at_call 90; refine HT.out.mono ?_; rintro e w' ⟨rfl, hb⟩)
  all_goals go_ret2
  all_goals exact ⟨rfl, by assumption⟩

theorem ds_limit (W : World) (r f : Int) (hf : Kn f) (r0 : 1 ≤ r) (r1 : r ≤ 1000) (w : World) (h : At W w) :
    Calls Tryz.prog 14 #[.int .i64 r, .int .i64 f] w fun e w' => e = .returned (.tuple #[.int .i64 (r * f / 60 + 8), .bool true]) ∧ At W w' := by
  have ⟨p0, p1⟩ := hour_in hf r0 r1
  have HH := Lib.hid (ds_hourly r f hf r0 r1 w)
  have hM := l_muldiv (r * f) 6000 360000 W w h
  clear hf
  generalize r * f = D at *
  have ⟨e1, e2⟩ := mq_small (a := D) (b := 6000) (c := 360000) (by omega) (by omega) (by omega) (by omega) (by omega) (by omega) (by omega) (by omega)
  rw [e1, e2, show D * 6000 / 360000 = D / 60 by omega] at hM
  have HM := Lib.hid hM
  clear hM e1 e2
  go_enter Tryz.func14, Tryz.ntmps14
  go_wp2_with (first
    | (go_at_call 45; refine HH.out.mono ?_; rintro e w' ⟨rfl, rfl⟩)
    | (go_at_call 46; refine HM.out.mono ?_; rintro e w' ⟨rfl, hb⟩))
  all_goals go_ret2
  all_goals exact ⟨rfl, by assumption⟩

/-! ### The law package's own. -/
def setV (k : Nat) : Int := if k % 4 = 0 then 10 else if k % 4 = 1 then 15 else if k % 4 = 2 then 20 else 60
theorem set_kn (k : Nat) : Kn (setV k) := by unfold Kn setV; split <;> (try split) <;> (try split) <;> simp
end Go.Proofs.YtmocppghmdeahaaGreat
