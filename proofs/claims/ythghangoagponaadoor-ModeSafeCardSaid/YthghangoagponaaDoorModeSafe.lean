/- ModeSafe holds of every mode, every turn, and whether a programme is accepted: at a hazard nothing opens, and nothing but clear leads out of a fault, to where nothing opens. No condition. -/
import Derived.Test.YthghangoagponaaDoorLaid
import Derived.Test.YthghangoagponaaDoorCards
import Derived.Test.YthghangoagponaaDoorTie
import Derived.Test.YthghangoagponaaDoorMode
namespace Go.Proofs.YthghangoagponaaDoor.modeSafe
open Go.ChangeShapes Go.WideShapes Go.ChangeAt Go.RowKit
set_option linter.unusedVariables false
set_option linter.unusedSimpArgs false

theorem words {W : World} (h : laidMetH Tryd.prog Rows.modeSafeRow.laid W) : Words W 0 mdNames :=
  words_of (by kernel_rfl) (by kernel_rfl) Tryd.underlying59 Tryd.underlying9 (by kernel_rfl) rfl (by decide) h
theorem nx_haz (m : Int) (a : Bool) : nxV m 5 a = 7 := by unfold nxV; rw [if_pos (by omega)]
theorem op_out {m : Int} (h : ¬ (m = 2 ∨ m = 3 ∨ m = 5)) : opB m = false := decide_eq_false h
theorem shape {m t n : Int} {a : Bool} (hn : nxV m t a = n) : 1 ≤ n ∧ n ≤ 7 ∧ ((n = 2 ∨ n = 3 ∨ n = 5) → (m = 5 ∧ n = 5) ∨ (m = 3 ∧ t = 7 ∧ n = 5) ∨ ((m = 2 ∨ m = 3 ∨ m = 5) ∧ (n = 2 ∨ n = 3)) ∨ (t = 2 ∧ m = 1 ∧ n = 3) ∨ (t = 2 ∧ m = 4 ∧ n = 3) ∨ (t = 1 ∧ m = 1 ∧ n = 2)) := by
  unfold nxV at hn
  by_cases h0 : m < 1 ∨ 7 < m ∨ t = 5
  · rw [if_pos h0] at hn; omega
  rw [if_neg h0] at hn
  by_cases h7 : m = 7
  · rw [if_pos h7] at hn; unfold leV at hn; (repeat' split at hn) <;> omega
  rw [if_neg h7] at hn
  by_cases h4 : t = 4
  · rw [if_pos h4] at hn; omega
  rw [if_neg h4] at hn
  unfold tuV idV prV ruV at hn
  rcases (by omega : m = 1 ∨ m = 2 ∨ m = 3 ∨ m = 4 ∨ m = 5 ∨ m = 6) with rfl | rfl | rfl | rfl | rfl | rfl
  all_goals simp only [if_true, if_false, reduceIte, Int.reduceEq] at hn
  all_goals (repeat' split at hn)
  all_goals omega
/-- What comes of a mode and a turn, as far as this law asks. -/
theorem ways (m t : Int) (a : Bool) : ∃ n, nxV m t a = n ∧
    ((opB n = false ∧ 1 ≤ n ∧ n ≤ 7 ∧ n ≠ 5) ∨ (opB n = true ∧ opB m = true ∧ n = 5 ∧ m = 5) ∨ (opB n = true ∧ opB m = true ∧ n = 5 ∧ m = 3 ∧ t = 7) ∨
    (opB n = true ∧ opB m = true ∧ (n = 2 ∨ n = 3)) ∨ (opB n = true ∧ opB m = false ∧ t = 2 ∧ m = 1 ∧ n = 3) ∨ (opB n = true ∧ opB m = false ∧ t = 2 ∧ m = 4 ∧ n = 3) ∨ (opB n = true ∧ opB m = false ∧ t = 1 ∧ m = 1 ∧ n = 2)) := by
  obtain ⟨n, hn⟩ : ∃ n, nxV m t a = n := ⟨_, rfl⟩
  obtain ⟨h1, h2, h3⟩ := shape hn
  refine ⟨n, hn, ?_⟩
  by_cases h : n = 2 ∨ n = 3 ∨ n = 5
  · have o : opB n = true := decide_eq_true h
    rcases h3 h with ⟨rfl, e⟩ | ⟨rfl, e, e2⟩ | ⟨e, e2⟩ | ⟨e, rfl, e2⟩ | ⟨e, rfl, e2⟩ | ⟨e, rfl, e2⟩
    · exact .inr (.inl ⟨o, rfl, e, rfl⟩)
    · exact .inr (.inr (.inl ⟨o, rfl, e2, rfl, e⟩))
    · exact .inr (.inr (.inr (.inl ⟨o, decide_eq_true e, e2⟩)))
    · exact .inr (.inr (.inr (.inr (.inl ⟨o, rfl, e, rfl, e2⟩))))
    · exact .inr (.inr (.inr (.inr (.inr (.inl ⟨o, rfl, e, rfl, e2⟩)))))
    · exact .inr (.inr (.inr (.inr (.inr (.inr ⟨o, rfl, e, rfl, e2⟩)))))
  · exact .inl ⟨op_out h, h1, h2, by omega⟩
theorem fault (t : Int) (a : Bool) : opB (nxV 7 t a) = false ∧ ((t = 6 ∧ nxV 7 t a ≠ 7 ∧ (nxV 7 t a = 4 → a = true)) ∨ (t ≠ 6 ∧ nxV 7 t a = 7)) := by
  by_cases h6 : t = 6
  · subst h6
    cases a
    · exact ⟨by decide, .inl ⟨rfl, by decide, by decide⟩⟩
    · exact ⟨by decide, .inl ⟨rfl, by decide, by decide⟩⟩
  · have : nxV 7 t a = 7 := by
      unfold nxV leV
      by_cases h5 : t = 5
      · rw [if_pos (by omega)]
      · rw [if_neg (by omega), if_pos rfl, if_neg h6]
    exact ⟨by rw [this]; decide, .inr ⟨h6, this⟩⟩

set_option maxHeartbeats 2000000 in
set_option maxRecDepth 100000 in
theorem walk (m : Int) (wm : (Lit.int .i64 m).wf = true) (t : Int) (wt : (Lit.int .i64 t).wf = true) (a : Bool) (W : World) (hL : laidMetH Tryd.prog Rows.modeSafeRow.laid W) :
    Calls Tryd.prog 4 #[.int .i64 m, .int .i64 t, .bool a] W fun e W' => e = .returned (.bool true) ∧ Below W.heap.size W W' := by
  have HN := Lib.hid (words hL)
  clear wm wt hL
  have K1 := Lib.hid (fun w => md_next m t a w)
  have K2 := Lib.hid (fun w => md_next m 5 a w)
  rw [nx_haz] at K2
  have K3 := Lib.hid (fun w => md_next 7 t a w)
  have K4 := Lib.hid (fun w => md_opens (nxV m t a) w)
  have K5 := Lib.hid (fun w => md_opens m w)
  have K6 := Lib.hid (fun w => md_opens (nxV 7 t a) w)
  obtain ⟨f1, f2⟩ := fault t a
  rw [f1] at K6
  clear f1
  obtain ⟨X, hX, hw⟩ := ways m t a
  rw [hX] at K1 K4
  clear hX
  generalize nxV 7 t a = F at *
  rcases hw with ⟨o1, n1, n2, n3⟩ | ⟨o1, o2, rfl, rfl⟩ | ⟨o1, o2, rfl, rfl, rfl⟩ | ⟨o1, o2, rfl | rfl⟩ | ⟨o1, o2, rfl, rfl, rfl⟩ | ⟨o1, o2, rfl, rfl, rfl⟩ | ⟨o1, o2, rfl, rfl, rfl⟩
  all_goals rw [o1] at K4
  all_goals (try rw [o2] at K5)
  all_goals (try clear o2)
  all_goals clear o1
  all_goals (try have q0 : (X != 5) = true := by simpa using n3)
  all_goals rcases f2 with ⟨g1, g2, g3⟩ | ⟨g1, g2⟩
  all_goals (try (exfalso; omega))
  all_goals (try subst g1)
  all_goals (try subst g2)
  all_goals (try have q1 : (t == 6) = false := by simpa using g1)
  all_goals (try have q2 : (F == 7) = false := by simpa using g2)
  all_goals (try by_cases h4 : F = 4)
  all_goals (try (have ha := g3 h4; subst ha; subst h4))
  all_goals (try have q3 : (F == 4) = false := by simpa using h4)
  all_goals (try clear g3)
  all_goals go_enter Tryd.func4, Tryd.ntmps4
  all_goals go_wp2_with (first
    | (go_at_call 11; (with_reducible refine (K2.out _).mono ?_); rintro e w' ⟨rfl, rfl⟩)
    | (go_at_call 11; (with_reducible refine (K3.out _).mono ?_); rintro e w' ⟨rfl, rfl⟩)
    | (go_at_call 11; (with_reducible refine (K1.out _).mono ?_); rintro e w' ⟨rfl, rfl⟩)
    | (go_at_call 13; (with_reducible refine (K4.out _).mono ?_); rintro e w' ⟨rfl, rfl⟩)
    | (go_at_call 13; (with_reducible refine (K5.out _).mono ?_); rintro e w' ⟨rfl, rfl⟩)
    | (go_at_call 13; (with_reducible refine (K6.out _).mono ?_); rintro e w' ⟨rfl, rfl⟩)
    | (go_at_call 21; refine (law37_awake _ HN.out).mono ?_; rintro e w' ⟨rfl, rfl⟩))
  all_goals go_ret
  all_goals exact ⟨rfl, Below.refl _ _⟩

theorem door_met (os : Os) (args : Array Value) : laidMetH Tryd.prog Rows.modeSafeRow.laid ((World.doorLaid Tryd.prog 39 os).forCall (fun _ _ => 0) ⟨#[], args, []⟩).memory :=
  laidMetH_of_parts3 (fuel := 8) (laidMet_of_run' 8 (by kernel_rfl) (by kernel_rfl)) (by kernel_rfl) (by kernel_rfl)
set_option maxRecDepth 100000 in
theorem lifted (os : Os) (started : os.Started) (H : Type) (enc : TypeId × Value → H) :
    ReturnsInHanded {} Tryd.checked os 4 .any (fun w args => (Rows.modeSafeSpec.pre enc Tryd.prog Tryd.f4 [] false w args ∧ laidMetH Tryd.prog Rows.modeSafeRow.laid w) ∧ sizedMet enc Tryd.prog Tryd.f4 (OpenSpec.ofChange Rows.modeSafeSpec) false w args) (Rows.modeSafeSpec.post enc Tryd.prog Tryd.f4 false true false false) := by
  refine law_lift_laid (laid := Rows.modeSafeRow.laid) started (by kernel_rfl) Tryd.func4 rfl rfl ?_ (by kernel_rfl)
    (ChangeSpec.witness_shaped (enc := enc) (C := Tryd.checked) (os := os) (X := fun w _ => laidMetH Tryd.prog Rows.modeSafeRow.laid w) false (World.doorLaid Tryd.prog 39 os) #[.int .i64 0, .int .i64 0, .bool false] 8 rfl (World.shaped_of_RefB (by kernel_rfl) (by kernel_rfl)) (by kernel_rfl) (by kernel_rfl) (by kernel_rfl) (door_met os _)) ?_
  · intro ds hl
    match ds, hl with
    | [_, _, _], _ => exact ⟨rfl, rfl, rfl⟩
  · intro W base args ds p hval hA hlt hwt hL
    rw [Tryd.params4] at hA hval hwt
    obtain ⟨v0, vs0, d0, ds0, p0, q0, hargs, rfl, rfl, h0, r0⟩ := trodAll_cons hA
    obtain ⟨v1, vs1, d1, ds1, p1, q1, rfl, rfl, rfl, h1, r1⟩ := trodAll_cons r0
    obtain ⟨v2, vs2, d2, ds2, p2, q2, rfl, rfl, rfl, h2, r2⟩ := trodAll_cons r1
    obtain ⟨rfl, rfl, rfl⟩ := trodAll_nil r2
    obtain rfl : args = #[v0, v1, v2] := by cases args; simp_all
    obtain ⟨a0, rfl, rfl, rfl, w0⟩ := open_int Tryd.underlying3 (hval 0 3 v0 rfl rfl) h0
    obtain ⟨a1, rfl, rfl, rfl, w1⟩ := open_int Tryd.underlying3 (hval 1 3 v1 rfl rfl) h1
    obtain ⟨a2, rfl, rfl, rfl⟩ := open_bool Tryd.underlying4 (hval 2 4 v2 rfl rfl) h2
    exact walk a0 w0 a1 w1 a2 W hL

theorem over : Rows.modeSafeRow.holds Tryd.pinned (OpenSpec.ofChange Rows.modeSafeSpec) :=
  OpenClaim.holds_of_wide 4 Tryd.f4 rfl rfl rfl rfl rfl rfl rfl ⟨rfl, rfl, rfl, rfl, rfl⟩ rfl rfl rfl rfl rfl (by kernel_rfl) Tryd.func4 (by kernel_rfl)
    (of_decide_eq_true (by kernel_rfl)) (by unfold Func.isWrapper; first | (rw [if_pos (by decide +kernel)]; kernel_rfl) | (rw [if_neg (by decide +kernel)]; exact ⟨rfl, rfl⟩))
    (fun os started H enc _ => lifted os started H enc)

theorem plain (f : FuncId) (fn : Func) (hf : Tryd.pinned.checked.prog.funcNamed "pinchcock/pinchcocklaw37.ModeSafe" = some f) (hfn : Tryd.pinned.checked.prog.funcs[f]? = some fn) :
    false = Tryd.pinned.checked.prog.looks [] ∧ ∀ (j : Nat) t, fn.params[j]? = some t → Tryd.pinned.checked.prog.wantsStandIn t = false := by
  obtain rfl : f = 4 := Option.some.inj ((show Tryd.prog.funcNamed "pinchcock/pinchcocklaw37.ModeSafe" = some 4 by kernel_rfl).symm.trans hf) |>.symm
  obtain rfl : fn = Tryd.f4 := (Option.some.inj (Tryd.func4.symm.trans hfn)).symm
  refine ⟨by kernel_rfl, fun j t ht => ?_⟩
  rw [Tryd.params4] at ht
  have hm : t ∈ [3, 3, 4] := by simpa using Array.mem_of_getElem? ht
  have hall : ([3, 3, 4].all fun u => !Tryd.prog.wantsStandIn u) = true := by kernel_rfl
  exact (show Tryd.prog.wantsStandIn t = false by simpa using List.all_eq_true.1 hall t hm)
theorem proved : Rows.ModeSafeCardSaid :=
  Claim7.holds_tied_plain_at .later [] _ _ _ _ over (fun _ h => by cases h) (by kernel_rfl) (fun _ h => by cases h) modeSafe_row_tie rfl ⟨rfl, rfl⟩ (by kernel_rfl) rfl plain (by kernel_rfl)
#print axioms proved
end Go.Proofs.YthghangoagponaaDoor.modeSafe
