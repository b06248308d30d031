/- A reader of bytes: contract of real. -/
import Derived.Test.YteeiebopfjlffaaRdR
namespace Go.Proofs.Yteeiebopfjlffaa
open Go.RowKit Ieee
set_option linter.unusedVariables false
set_option linter.unusedSimpArgs false
set_option maxRecDepth 100000
attribute [local go_sem] cell_set_ite

set_option maxHeartbeats 2000000 in
theorem rd_real (g : Nat) (l : List UInt8) (b : Bool) (hl : l.length ≤ 100000) (w : World) (hB : Box w g (rdC l b)) :
    Calls Try.prog 44 #[.pointer (some ⟨g, 0, none⟩)] w fun e w' => e = .returned (.float .f64 (reV l)) ∧ Rdr g w (reR l) (b || reW l) w' := by
  have KN := Lib.hid (rd_number g 1 l b (by omega) (by omega) hl w hB)
  by_cases h1 : rdV l 1 = 1
  · have e1 : reV l = NANW := by unfold reV; rw [if_pos h1]
    have e2 : reR l = rdR l 1 := by unfold reR; rw [if_neg (by omega)]
    have e3 : reW l = rdW l 1 := by unfold reW; rw [if_neg (by omega), h1]; simp
    rw [e1, e2, e3]
    rw [h1] at KN
    clear e1 e2 e3 h1
    go_enter Try.func44, Try.ntmps44
    go_wp2_with (first
      | (go_at_call 31; refine KN.out.mono ?_; rintro e w1 ⟨rfl, x1⟩)
      | (go_at_call 50; refine (wi_nan _).mono ?_; rintro e w' ⟨rfl, rfl⟩))
    all_goals go_ret
    all_goals exact ⟨rfl, x1⟩
  by_cases h2 : rdV l 1 = 2
  · have e1 : reV l = 18442240474082181120 := by unfold reV; rw [if_neg h1, if_pos h2]
    have e2 : reR l = rdR l 1 := by unfold reR; rw [if_neg (by omega)]
    have e3 : reW l = rdW l 1 := by unfold reW; rw [if_neg (by omega), h2]; simp
    rw [e1, e2, e3]
    rw [h2] at KN
    clear e1 e2 e3 h1 h2
    go_enter Try.func44, Try.ntmps44
    go_wp2_with (first
      | (go_at_call 31; refine KN.out.mono ?_; rintro e w1 ⟨rfl, x1⟩)
      | (go_at_call 51; refine (wi_inf_down _).mono ?_; rintro e w' ⟨rfl, rfl⟩))
    all_goals go_ret
    all_goals exact ⟨rfl, x1⟩
  by_cases h3 : rdV l 1 = 3
  · have e1 : reV l = 9218868437227405312 := by unfold reV; rw [if_neg h1, if_neg h2, if_pos h3]
    have e2 : reR l = rdR l 1 := by unfold reR; rw [if_neg (by omega)]
    have e3 : reW l = rdW l 1 := by unfold reW; rw [if_neg (by omega), h3]; simp
    rw [e1, e2, e3]
    rw [h3] at KN
    clear e1 e2 e3 h1 h2 h3
    go_enter Try.func44, Try.ntmps44
    go_wp2_with (first
      | (go_at_call 31; refine KN.out.mono ?_; rintro e w1 ⟨rfl, x1⟩)
      | (go_at_call 51; refine (wi_inf_up _).mono ?_; rintro e w' ⟨rfl, rfl⟩))
    all_goals go_ret
    all_goals exact ⟨rfl, x1⟩
  by_cases h4 : rdV l 1 = 4
  · have e1 : reV l = 9223372036854775808 := by unfold reV; rw [if_neg h1, if_neg h2, if_neg h3, if_pos h4]
    have e2 : reR l = rdR l 1 := by unfold reR; rw [if_neg (by omega)]
    have e3 : reW l = rdW l 1 := by unfold reW; rw [if_neg (by omega), h4]; simp
    rw [e1, e2, e3]
    rw [h4] at KN
    clear e1 e2 e3 h1 h2 h3 h4
    go_enter Try.func44, Try.ntmps44
    go_wp2_with (first
      | (go_at_call 31; refine KN.out.mono ?_; rintro e w1 ⟨rfl, x1⟩)
      | (go_at_call 52; refine (wi_copy _).mono ?_; rintro e w' ⟨rfl, rfl⟩))
    all_goals go_ret
    all_goals exact ⟨rfl, x1⟩
  by_cases h5 : rdV l 1 = 5
  · have e1 : reV l = 0 := by unfold reV; rw [if_neg h1, if_neg h2, if_neg h3, if_neg h4, if_pos h5]
    have e2 : reR l = rdR l 1 := by unfold reR; rw [if_neg (by omega)]
    have e3 : reW l = rdW l 1 := by unfold reW; rw [if_neg (by omega), h5]; simp
    rw [e1, e2, e3]
    rw [h5] at KN
    clear e1 e2 e3 h1 h2 h3 h4 h5
    go_enter Try.func44, Try.ntmps44
    go_wp2_with (go_at_call 31; refine KN.out.mono ?_; rintro e w1 ⟨rfl, x1⟩)
    all_goals go_ret
    all_goals exact ⟨rfl, x1⟩
  by_cases h6 : rdV l 1 = 6
  · have hp : plX l = rdV (rdR l 1) 4 * 4294967296 + rdV (rdR (rdR l 1) 4) 4 := rfl
    have e1 : reV l = if kdV (plX l) = 6 then plX l else 0 := by unfold reV; rw [if_neg h1, if_neg h2, if_neg h3, if_neg h4, if_neg h5, if_pos h6]
    have e2 : reR l = rdR (rdR (rdR l 1) 4) 4 := by unfold reR; rw [if_pos h6]
    have e3 : (b || reW l) = ((((b || rdW l 1) || rdW (rdR l 1) 4) || rdW (rdR (rdR l 1) 4) 4) || !decide (kdV (plX l) = 6)) := by unfold reW; rw [if_pos h6]; simp only [Bool.or_assoc]
    rw [e1, e2, e3]
    rw [h6] at KN
    have l1 := rdR_len l 1
    have l2 := rdR_len (rdR l 1) 4
    have v1 := rdV_lt (rdR l 1) 4
    have v2 := rdV_lt (rdR (rdR l 1) 4) 4
    rw [show 256 ^ 4 = 4294967296 by decide] at v1 v2
    have K2 := Lib.hid fun w' (x : Box w' g (rdC (rdR l 1) (b || rdW l 1))) => rd_number g 4 (rdR l 1) (b || rdW l 1) (by omega) (by omega) (by omega) w' x
    have K3 := Lib.hid fun w' (x : Box w' g (rdC (rdR (rdR l 1) 4) ((b || rdW l 1) || rdW (rdR l 1) 4))) => rd_number g 4 (rdR (rdR l 1) 4) ((b || rdW l 1) || rdW (rdR l 1) 4) (by omega) (by omega) (by omega) w' x
    have KP := Lib.hid fun w => wi_plain (plX l) (plX_lt l) w
    have HF := Lib.hid fun w => run_from (plX l : Nat) w
    have HO := Lib.hid (or_words _ _ v1 v2)
    rw [← hp] at HO
    clear e1 e2 e3 hp h1 h2 h3 h4 h5 h6 hB
    generalize plX l = p at *
    generalize ((b || rdW l 1) || rdW (rdR l 1) 4) = b2 at *
    generalize (b || rdW l 1) = b1 at *
    generalize (b2 || rdW (rdR (rdR l 1) 4) 4) = b3 at *
    generalize rdV (rdR l 1) 4 = H at *
    generalize rdV (rdR (rdR l 1) 4) 4 = L at *
    generalize rdR (rdR (rdR l 1) 4) 4 = r3 at *
    generalize rdR (rdR l 1) 4 = r2 at *
    generalize rdR l 1 = r1 at *
    have hh : (decide (kdV p = 6) = true ∧ (if kdV p = 6 then p else 0) = p) ∨ (decide (kdV p = 6) = false ∧ (if kdV p = 6 then p else 0) = 0) := by
      by_cases h : kdV p = 6
      · exact .inl ⟨decide_eq_true h, if_pos h⟩
      · exact .inr ⟨decide_eq_false h, if_neg h⟩
    generalize (if kdV p = 6 then p else 0) = z at *
    generalize decide (kdV p = 6) = q at *
    have HH := Lib.hid hh
    clear hh
    go_enter Try.func44, Try.ntmps44
    go_wp2_with (fail)
    refine KN.out.mono ?_
    rintro e w1 ⟨rfl, x1⟩
    have X1 := Lib.hid x1
    clear x1
    go_wp2_with (fail)
    refine (K2.out w1 X1.out.1).mono ?_
    rintro e w2 ⟨rfl, x2⟩
    have X2 := Lib.hid (Rdr.then X1.out x2)
    clear x2
    go_wp2_with (fail)
    refine (K3.out w2 X2.out.1).mono ?_
    rintro e w3 ⟨rfl, x3⟩
    have c1 := x3.1.2.1 1
    have f1 := x3.1.2.2 1
    simp only [rdC, List.getElem?_toArray, List.getElem?_cons_succ, List.getElem?_cons_zero] at c1
    have X3 := Lib.hid (Rdr.then X2.out x3)
    clear x3
    have hd : ∀ w, (callFunc 53 #[.int .u64 (bits .or .u64 ((H : Int) * 4294967296) (L : Int))]).run Try.prog w = .ok (.value (.float .f64 p)) w := fun w => by
      have := HF.out w
      rw [HO.out, this, Int.toNat_natCast]
    rcases HH.out with ⟨rfl, rfl⟩ | ⟨rfl, rfl⟩
    · go_wp2_with (go_at_call 48; refine (KP.out _).mono ?_; rintro e w' ⟨rfl, rfl⟩)
      all_goals go_ret
      all_goals exact ⟨rfl, by rw [Bool.not_true, Bool.or_false]; exact X3.out⟩
    · go_wp2_with (go_at_call 48; refine (KP.out _).mono ?_; rintro e w' ⟨rfl, rfl⟩)
      all_goals go_ret
      all_goals exact ⟨rfl, by rw [Bool.not_false, Bool.or_true]; exact rd_wrong X3.out⟩
  · have e1 : reV l = 0 := by unfold reV; rw [if_neg h1, if_neg h2, if_neg h3, if_neg h4, if_neg h5, if_neg h6]
    have e2 : reR l = rdR l 1 := by unfold reR; rw [if_neg h6]
    have e3 : reW l = true := by unfold reW; rw [if_neg h6, decide_eq_false (by omega)]; simp
    rw [e1, e2, e3, Bool.or_true]
    clear e1 e2 e3
    generalize rdV l 1 = k at *
    go_enter Try.func44, Try.ntmps44
    go_wp2_with (fail)
    refine KN.out.mono ?_
    rintro e w1 ⟨rfl, x1⟩
    have c1 := x1.1.2.1 1
    have f1 := x1.1.2.2 1
    simp only [rdC, List.getElem?_toArray, List.getElem?_cons_succ, List.getElem?_cons_zero] at c1
    have X1 := Lib.hid x1
    clear x1
    go_wp2_with (fail)
    all_goals try omega
    all_goals go_ret
    all_goals exact ⟨rfl, rd_wrong X1.out⟩
end Go.Proofs.Yteeiebopfjlffaa
