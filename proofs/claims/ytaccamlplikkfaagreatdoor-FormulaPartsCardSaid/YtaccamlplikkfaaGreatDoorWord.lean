/- The word of a part: contracts of formula's atom and word. -/
import Derived.Test.YtaccamlplikkfaaGreatDoorFormN
import Derived.Test.YtaccamlplikkfaaGreatDoorItoa
import Derived.Test.YtaccamlplikkfaaGreatDoorLaid
import Derived.Test.YtaccamlplikkfaaGreatDoorCalm
import Derived.Test.YtaccamlplikkfaaGreatDoorWorld
import Derived.Lib.SmallJoins
import Derived.Laws.Concat
namespace Go.Proofs.YtaccamlplikkfaaGreatDoor
open Go.RowKit Go.Deep
set_option linter.unusedVariables false
set_option linter.unusedSimpArgs false
set_option maxRecDepth 100000
attribute [local go_sem] cell_set_ite Near.cell Near.frozen
attribute [-go_sem] run_string_add_if

/-- What of the package-level variables the words want. -/
structure Gl (w : World) : Prop where
  pow : Lib.TabIs Tryz.prog w "internal/strconv.uint64pow10" .u64 Lib.pow10Tab
  ask : Words w 2 askL
theorem Gl.below {w w' : World} (h : Gl w) (hb : Below w.heap.size w w') : Gl w' :=
  ⟨Joins.tab_stays (g := 5) (by kernel_rfl) h.pow hb (Nat.le_refl _), h.ask.below hb⟩
theorem fo_grow (w : World) (os : Array Obj) : Below w.heap.size w (Sort.grow w os) :=
  ⟨rfl, rfl, rfl, by show w.heap.size ≤ (w.heap ++ os).size; rw [Array.size_append]; omega, fun j hj => Array.getElem?_append_left hj⟩
theorem fo_itoa (n : Int) (h0 : -9223372036854775808 ≤ n) (h1 : n ≤ 9223372036854775807) (w : World) (g : Gl w) : Calls Tryz.prog 20 #[.int .i64 n] w fun e w' => e = .returned (.string ⟨(Lib.itoa n).toArray⟩) ∧ Below w.heap.size w w' :=
  (itoa_is n h0 h1 w g.pow).mono fun _ _ ⟨he, k, os, hw⟩ => ⟨he, by rw [hw]; exact below_call (below_drewN (Below.refl _ _) k) (fo_grow _ os)⟩
theorem itoa_short (n : Int) (h0 : 0 ≤ n) (h1 : n ≤ 2147483647) : ((Lib.itoa n).length : Int) ≤ 8388608 := by
  have := Lib.itoa_length_le n (by omega) (by omega)
  omega
set_option maxHeartbeats 8000000 in
theorem fo_atom (what least : Int) (h : akB what least = true) (w : World) (g : Gl w) : Calls Tryz.prog 21 #[.int .i64 what, .int .i64 least] w fun e w' => e = .returned (.string ⟨(atomL what least).toArray⟩) ∧ Below w.heap.size w w' := by
  have A0 : Below w.heap.size w w := Below.refl _ _
  have HI := Lib.hid (fun h0 h1 w' (hb : Below w.heap.size w w') => fo_itoa least h0 h1 w' (g.below hb))
  unfold akB at h
  unfold atomL
  by_cases h11 : what = 11
  · subst h11
    simp only [if_true, Bool.and_eq_true, decide_eq_true_eq] at h ⊢
    obtain ⟨⟨h1, _⟩, h2⟩ := h
    have ha : ∀ w, (Op.stringOp .add (⟨#[104, 97, 122, 97, 114, 100, 58]⟩ : ByteArray) ⟨(Lib.itoa least).toArray⟩).run Tryz.prog w = .ok (.string ⟨(wHazard ++ Lib.itoa least).toArray⟩) w := fun w => run_string_add_lists w wHazard (Lib.itoa least) (by decide) (itoa_short least (by omega) (by omega))
    generalize Lib.itoa least = it at *
    generalize wHazard ++ it = wd at *
    go_enter Tryz.func21, Tryz.ntmps21
    go_wp2_with (fail)
    refine (HI.out (by omega) (by omega) _ A0).mono ?_
    rintro e w1 ⟨rfl, hb⟩
    have A1 := below_call A0 hb
    clear hb A0 HI
    go_wp2_with (fail)
    all_goals go_ret
    all_goals exact ⟨rfl, A1⟩
  · rw [if_neg h11] at h ⊢
    simp only [Bool.and_eq_true, decide_eq_true_eq] at h
    obtain ⟨⟨⟨h1, h2⟩, h3⟩, h4⟩ := h
    have hb1 : ∀ (x : List UInt8) w, x.length ≤ 10 → (Op.stringOp .add (⟨x.toArray⟩ : ByteArray) ⟨#[62, 61]⟩).run Tryz.prog w = .ok (.string ⟨(x ++ wLeast).toArray⟩) w := fun x w hx => run_string_add_lists w x wLeast (by omega) (by decide)
    have hb2 : ∀ (x : List UInt8) w, x.length ≤ 12 → (Op.stringOp .add (⟨x.toArray⟩ : ByteArray) ⟨(Lib.itoa least).toArray⟩).run Tryz.prog w = .ok (.string ⟨(x ++ Lib.itoa least).toArray⟩) w := fun x w hx => run_string_add_lists w x _ (by omega) (itoa_short least (by omega) (by omega))
    have k0 : -9223372036854775808 ≤ least := by omega
    have k1 : least ≤ 9223372036854775807 := by omega
    have lg := g.ask.1
    have KI := Lib.hid (HI.out k0 k1)
    have HA := Lib.hid g.ask
    generalize Lib.itoa least = it at *
    clear g h3 h4 k0 k1 HI
    rcases ask_cases what h1 h2 with rfl | rfl | rfl | rfl | rfl | rfl | rfl | rfl | rfl | rfl
    · have c0 := HA.out.at_ 0 [109, 111, 100, 101] rfl
      have t1 := fun w => hb1 [109, 111, 100, 101] w (by decide)
      have t2 := fun w => hb2 ([109, 111, 100, 101] ++ wLeast) w (by decide)
      clear hb1 hb2 h1 h2
      show Calls _ _ _ _ (fun e w' => e = .returned (.string ⟨(([109, 111, 100, 101] ++ wLeast) ++ it).toArray⟩) ∧ _)
      generalize [109, 111, 100, 101] ++ wLeast = s1 at *
      generalize s1 ++ it = wd at *
      go_enter Tryz.func21, Tryz.ntmps21
      go_wp2_with (fail)
      refine wp_region_calm (by kernel_rfl) (by kernel_rfl) ?_
      repeat (go_big_quiet_step (((go_at_call 20; exact calm_of _ (KI.out _ (below_call A0 (Near.below _)))))))
      refine wpQuiet_nil ?_
      intro _ hw'
      obtain ⟨u, rfl⟩ := hw'
      have A1 := below_call A0 u.below
      go_wp2_with (fail)
      all_goals go_ret
      all_goals exact ⟨rfl, A1⟩
    · have c0 := HA.out.at_ 1 [108, 97, 116, 99, 104] rfl
      have t1 := fun w => hb1 [108, 97, 116, 99, 104] w (by decide)
      have t2 := fun w => hb2 ([108, 97, 116, 99, 104] ++ wLeast) w (by decide)
      clear hb1 hb2 h1 h2
      show Calls _ _ _ _ (fun e w' => e = .returned (.string ⟨(([108, 97, 116, 99, 104] ++ wLeast) ++ it).toArray⟩) ∧ _)
      generalize [108, 97, 116, 99, 104] ++ wLeast = s1 at *
      generalize s1 ++ it = wd at *
      go_enter Tryz.func21, Tryz.ntmps21
      go_wp2_with (fail)
      refine wp_region_calm (by kernel_rfl) (by kernel_rfl) ?_
      repeat (go_big_quiet_step (((go_at_call 20; exact calm_of _ (KI.out _ (below_call A0 (Near.below _)))))))
      refine wpQuiet_nil ?_
      intro _ hw'
      obtain ⟨u, rfl⟩ := hw'
      have A1 := below_call A0 u.below
      go_wp2_with (fail)
      all_goals go_ret
      all_goals exact ⟨rfl, A1⟩
    · have c0 := HA.out.at_ 2 [110, 111, 116, 101, 115] rfl
      have t1 := fun w => hb1 [110, 111, 116, 101, 115] w (by decide)
      have t2 := fun w => hb2 ([110, 111, 116, 101, 115] ++ wLeast) w (by decide)
      clear hb1 hb2 h1 h2
      show Calls _ _ _ _ (fun e w' => e = .returned (.string ⟨(([110, 111, 116, 101, 115] ++ wLeast) ++ it).toArray⟩) ∧ _)
      generalize [110, 111, 116, 101, 115] ++ wLeast = s1 at *
      generalize s1 ++ it = wd at *
      go_enter Tryz.func21, Tryz.ntmps21
      go_wp2_with (fail)
      refine wp_region_calm (by kernel_rfl) (by kernel_rfl) ?_
      repeat (go_big_quiet_step (((go_at_call 20; exact calm_of _ (KI.out _ (below_call A0 (Near.below _)))))))
      refine wpQuiet_nil ?_
      intro _ hw'
      obtain ⟨u, rfl⟩ := hw'
      have A1 := below_call A0 u.below
      go_wp2_with (fail)
      all_goals go_ret
      all_goals exact ⟨rfl, A1⟩
    · have c0 := HA.out.at_ 3 [108, 101, 118, 101, 108] rfl
      have t1 := fun w => hb1 [108, 101, 118, 101, 108] w (by decide)
      have t2 := fun w => hb2 ([108, 101, 118, 101, 108] ++ wLeast) w (by decide)
      clear hb1 hb2 h1 h2
      show Calls _ _ _ _ (fun e w' => e = .returned (.string ⟨(([108, 101, 118, 101, 108] ++ wLeast) ++ it).toArray⟩) ∧ _)
      generalize [108, 101, 118, 101, 108] ++ wLeast = s1 at *
      generalize s1 ++ it = wd at *
      go_enter Tryz.func21, Tryz.ntmps21
      go_wp2_with (fail)
      refine wp_region_calm (by kernel_rfl) (by kernel_rfl) ?_
      repeat (go_big_quiet_step (((go_at_call 20; exact calm_of _ (KI.out _ (below_call A0 (Near.below _)))))))
      refine wpQuiet_nil ?_
      intro _ hw'
      obtain ⟨u, rfl⟩ := hw'
      have A1 := below_call A0 u.below
      go_wp2_with (fail)
      all_goals go_ret
      all_goals exact ⟨rfl, A1⟩
    · have c0 := HA.out.at_ 4 [98, 117, 122, 122, 101, 114] rfl
      have t1 := fun w => hb1 [98, 117, 122, 122, 101, 114] w (by decide)
      have t2 := fun w => hb2 ([98, 117, 122, 122, 101, 114] ++ wLeast) w (by decide)
      clear hb1 hb2 h1 h2
      show Calls _ _ _ _ (fun e w' => e = .returned (.string ⟨(([98, 117, 122, 122, 101, 114] ++ wLeast) ++ it).toArray⟩) ∧ _)
      generalize [98, 117, 122, 122, 101, 114] ++ wLeast = s1 at *
      generalize s1 ++ it = wd at *
      go_enter Tryz.func21, Tryz.ntmps21
      go_wp2_with (fail)
      refine wp_region_calm (by kernel_rfl) (by kernel_rfl) ?_
      repeat (go_big_quiet_step (((go_at_call 20; exact calm_of _ (KI.out _ (below_call A0 (Near.below _)))))))
      refine wpQuiet_nil ?_
      intro _ hw'
      obtain ⟨u, rfl⟩ := hw'
      have A1 := below_call A0 u.below
      go_wp2_with (fail)
      all_goals go_ret
      all_goals exact ⟨rfl, A1⟩
    · have c0 := HA.out.at_ 5 [111, 112, 101, 110] rfl
      have t1 := fun w => hb1 [111, 112, 101, 110] w (by decide)
      have t2 := fun w => hb2 ([111, 112, 101, 110] ++ wLeast) w (by decide)
      clear hb1 hb2 h1 h2
      show Calls _ _ _ _ (fun e w' => e = .returned (.string ⟨(([111, 112, 101, 110] ++ wLeast) ++ it).toArray⟩) ∧ _)
      generalize [111, 112, 101, 110] ++ wLeast = s1 at *
      generalize s1 ++ it = wd at *
      go_enter Tryz.func21, Tryz.ntmps21
      go_wp2_with (fail)
      refine wp_region_calm (by kernel_rfl) (by kernel_rfl) ?_
      repeat (go_big_quiet_step (((go_at_call 20; exact calm_of _ (KI.out _ (below_call A0 (Near.below _)))))))
      refine wpQuiet_nil ?_
      intro _ hw'
      obtain ⟨u, rfl⟩ := hw'
      have A1 := below_call A0 u.below
      go_wp2_with (fail)
      all_goals go_ret
      all_goals exact ⟨rfl, A1⟩
    · have c0 := HA.out.at_ 6 [112, 111, 115] rfl
      have t1 := fun w => hb1 [112, 111, 115] w (by decide)
      have t2 := fun w => hb2 ([112, 111, 115] ++ wLeast) w (by decide)
      clear hb1 hb2 h1 h2
      show Calls _ _ _ _ (fun e w' => e = .returned (.string ⟨(([112, 111, 115] ++ wLeast) ++ it).toArray⟩) ∧ _)
      generalize [112, 111, 115] ++ wLeast = s1 at *
      generalize s1 ++ it = wd at *
      go_enter Tryz.func21, Tryz.ntmps21
      go_wp2_with (fail)
      refine wp_region_calm (by kernel_rfl) (by kernel_rfl) ?_
      repeat (go_big_quiet_step (((go_at_call 20; exact calm_of _ (KI.out _ (below_call A0 (Near.below _)))))))
      refine wpQuiet_nil ?_
      intro _ hw'
      obtain ⟨u, rfl⟩ := hw'
      have A1 := below_call A0 u.below
      go_wp2_with (fail)
      all_goals go_ret
      all_goals exact ⟨rfl, A1⟩
    · have c0 := HA.out.at_ 7 [118, 111, 108, 117, 109, 101] rfl
      have t1 := fun w => hb1 [118, 111, 108, 117, 109, 101] w (by decide)
      have t2 := fun w => hb2 ([118, 111, 108, 117, 109, 101] ++ wLeast) w (by decide)
      clear hb1 hb2 h1 h2
      show Calls _ _ _ _ (fun e w' => e = .returned (.string ⟨(([118, 111, 108, 117, 109, 101] ++ wLeast) ++ it).toArray⟩) ∧ _)
      generalize [118, 111, 108, 117, 109, 101] ++ wLeast = s1 at *
      generalize s1 ++ it = wd at *
      go_enter Tryz.func21, Tryz.ntmps21
      go_wp2_with (fail)
      refine wp_region_calm (by kernel_rfl) (by kernel_rfl) ?_
      repeat (go_big_quiet_step (((go_at_call 20; exact calm_of _ (KI.out _ (below_call A0 (Near.below _)))))))
      refine wpQuiet_nil ?_
      intro _ hw'
      obtain ⟨u, rfl⟩ := hw'
      have A1 := below_call A0 u.below
      go_wp2_with (fail)
      all_goals go_ret
      all_goals exact ⟨rfl, A1⟩
    · have c0 := HA.out.at_ 8 [100, 114, 111, 112] rfl
      have t1 := fun w => hb1 [100, 114, 111, 112] w (by decide)
      have t2 := fun w => hb2 ([100, 114, 111, 112] ++ wLeast) w (by decide)
      clear hb1 hb2 h1 h2
      show Calls _ _ _ _ (fun e w' => e = .returned (.string ⟨(([100, 114, 111, 112] ++ wLeast) ++ it).toArray⟩) ∧ _)
      generalize [100, 114, 111, 112] ++ wLeast = s1 at *
      generalize s1 ++ it = wd at *
      go_enter Tryz.func21, Tryz.ntmps21
      go_wp2_with (fail)
      refine wp_region_calm (by kernel_rfl) (by kernel_rfl) ?_
      repeat (go_big_quiet_step (((go_at_call 20; exact calm_of _ (KI.out _ (below_call A0 (Near.below _)))))))
      refine wpQuiet_nil ?_
      intro _ hw'
      obtain ⟨u, rfl⟩ := hw'
      have A1 := below_call A0 u.below
      go_wp2_with (fail)
      all_goals go_ret
      all_goals exact ⟨rfl, A1⟩
    · have c0 := HA.out.at_ 9 [116, 105, 99, 107] rfl
      have t1 := fun w => hb1 [116, 105, 99, 107] w (by decide)
      have t2 := fun w => hb2 ([116, 105, 99, 107] ++ wLeast) w (by decide)
      clear hb1 hb2 h1 h2
      show Calls _ _ _ _ (fun e w' => e = .returned (.string ⟨(([116, 105, 99, 107] ++ wLeast) ++ it).toArray⟩) ∧ _)
      generalize [116, 105, 99, 107] ++ wLeast = s1 at *
      generalize s1 ++ it = wd at *
      go_enter Tryz.func21, Tryz.ntmps21
      go_wp2_with (fail)
      refine wp_region_calm (by kernel_rfl) (by kernel_rfl) ?_
      repeat (go_big_quiet_step (((go_at_call 20; exact calm_of _ (KI.out _ (below_call A0 (Near.below _)))))))
      refine wpQuiet_nil ?_
      intro _ hw'
      obtain ⟨u, rfl⟩ := hw'
      have A1 := below_call A0 u.below
      go_wp2_with (fail)
      all_goals go_ret
      all_goals exact ⟨rfl, A1⟩
set_option maxHeartbeats 8000000 in
theorem fo_word (t : Tm) (h : myB t = true) (w : World) (g : Gl w) : Calls Tryz.prog 11 #[t.val] w fun e w' => e = .returned (.string ⟨(wdL t).toArray⟩) ∧ Below w.heap.size w w' := by
  obtain ⟨op, a, b⟩ := t
  have A0 : Below w.heap.size w w := Below.refl _ _
  have ways : op = 1 ∨ op = 2 ∨ op = 3 ∨ op = 4 ∨ op = 5 ∨ op = 6 ∨ op = 7 ∨ op = 8 ∨ (op ≠ 1 ∧ op ≠ 2 ∧ op ≠ 3 ∧ op ≠ 4 ∧ op ≠ 5 ∧ op ≠ 6 ∧ op ≠ 7 ∧ op ≠ 8) := by omega
  unfold myB at h
  simp only at h
  unfold Tm.val
  simp only
  have A1 := below_alloc_on A0 (.cells #[.int .i64 op, .int .i64 a, .int .i64 b] 35)
  have X := box_new w #[.int .i64 op, .int .i64 a, .int .i64 b] 35
  rcases ways with rfl | rfl | rfl | rfl | rfl | rfl | rfl | rfl | ⟨h1, h2, h3, h4, h5, h6, h7, h8⟩
  case inr.inr.inr.inr.inr.inr.inr.inr => simp [h1, h2, h3, h4, h5, h6, h7, h8] at h
  case inr.inl =>
    simp only [if_true] at h
    have HC := Lib.hid (fun w' (hb : Below w.heap.size w w') => fo_atom a b h w' (g.below hb))
    show Calls _ _ _ _ (fun e w' => e = .returned (.string ⟨(atomL a b).toArray⟩) ∧ _)
    generalize atomL a b = wd at *
    clear h g A0
    go_enter Tryz.func11, Tryz.ntmps11
    go_wp2_with (fail)
    refine (HC.out _ A1).mono ?_
    rintro e w1 ⟨rfl, hb⟩
    have A2 := below_call A1 hb
    clear hb HC A1 X
    go_wp2_with (fail)
    all_goals go_ret
    all_goals exact ⟨rfl, A2⟩
  case inr.inr.inr.inr.inr.inl =>
    simp at h
    obtain ⟨⟨h1, h2⟩, rfl⟩ := h
    have HC := Lib.hid (fun w' (hb : Below w.heap.size w w') => fo_itoa a (by omega) (by omega) w' (g.below hb))
    have ha : ∀ w, (Op.stringOp .add (⟨#[111, 110, 99, 101, 58]⟩ : ByteArray) ⟨(Lib.itoa a).toArray⟩).run Tryz.prog w = .ok (.string ⟨(wOnce ++ Lib.itoa a).toArray⟩) w := fun w => run_string_add_lists w wOnce (Lib.itoa a) (by decide) (itoa_short a (by omega) (by omega))
    show Calls _ _ _ _ (fun e w' => e = .returned (.string ⟨(wOnce ++ Lib.itoa a).toArray⟩) ∧ _)
    generalize Lib.itoa a = it at *
    generalize wOnce ++ it = wd at *
    clear g A0 h1 h2
    go_enter Tryz.func11, Tryz.ntmps11
    go_wp2_with (fail)
    refine (HC.out _ A1).mono ?_
    rintro e w1 ⟨rfl, hb⟩
    have A2 := below_call A1 hb
    clear hb HC A1 X
    go_wp2_with (fail)
    all_goals go_ret
    all_goals exact ⟨rfl, A2⟩
  case inr.inr.inr.inr.inr.inr.inl =>
    simp at h
    obtain ⟨⟨h1, h2⟩, rfl⟩ := h
    have HC := Lib.hid (fun w' (hb : Below w.heap.size w w') => fo_itoa a (by omega) (by omega) w' (g.below hb))
    have ha : ∀ w, (Op.stringOp .add (⟨#[97, 108, 119, 97, 121, 115, 58]⟩ : ByteArray) ⟨(Lib.itoa a).toArray⟩).run Tryz.prog w = .ok (.string ⟨(wAlways ++ Lib.itoa a).toArray⟩) w := fun w => run_string_add_lists w wAlways (Lib.itoa a) (by decide) (itoa_short a (by omega) (by omega))
    show Calls _ _ _ _ (fun e w' => e = .returned (.string ⟨(wAlways ++ Lib.itoa a).toArray⟩) ∧ _)
    generalize Lib.itoa a = it at *
    generalize wAlways ++ it = wd at *
    clear g A0 h1 h2
    go_enter Tryz.func11, Tryz.ntmps11
    go_wp2_with (fail)
    refine (HC.out _ A1).mono ?_
    rintro e w1 ⟨rfl, hb⟩
    have A2 := below_call A1 hb
    clear hb HC A1 X
    go_wp2_with (fail)
    all_goals go_ret
    all_goals exact ⟨rfl, A2⟩
  all_goals
    clear h g A0
    go_enter Tryz.func11, Tryz.ntmps11
    go_wp2_with (fail)
    all_goals go_ret
    all_goals exact ⟨rfl, A1⟩
end Go.Proofs.YtaccamlplikkfaaGreatDoor
