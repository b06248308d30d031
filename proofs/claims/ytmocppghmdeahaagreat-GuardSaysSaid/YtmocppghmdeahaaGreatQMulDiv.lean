/- Contract of quot.MulDiv: a panic of ratio is recovered, and told as the limit and ErrBig. -/
import Derived.Test.YtmocppghmdeahaaGreatQRatio
import Derived.Defers
import Derived.Recover
import Derived.Laws.Pointers
namespace Go.Proofs.YtmocppghmdeahaaGreat
set_option maxRecDepth 100000
open Go.RowKit
set_option linter.unusedVariables false
set_option linter.unusedSimpArgs false

theorem at_drewN {B : Nat} {a w : World} (h : Below B a w) (n : Nat) : Below B a (w.drewN n) := h.trans ⟨rfl, rfl, rfl, Nat.le_refl _, fun _ _ => rfl⟩
theorem clV_same {n : Int} (h : clB n = false) : clV n = n := by
  refine clV_in ?_
  unfold clB withB at h; simp at h; omega

theorem catch_panicking (p q : Addr) (l : Int) (x0 x1 : Value) (older : List PanicEntry) (w : World) (hc : w.cell? p = some x0) (hz : w.frozen? p = false) (hc1 : w.cell? q = some x1) (hz1 : w.frozen? q = false) (hne : p.block ≠ q.block) :
    CallsD Tryz.prog 80 #[.pointer (some p), .pointer (some q)] (.panicking ({ v := .iface 81 (.int .i64 l), recovered := false } :: older)) w fun e u' w' =>
      e = .returned (.tuple #[]) ∧ u' = .panicking ({ v := .iface 81 (.int .i64 l), recovered := true } :: older) ∧ w' = (w.setCell p (.int .i64 l)).setCell q (.int .i64 3) := by
  have hc2 : (w.setCell p (.int .i64 l)).cell? q = some x1 := by rw [World.cell?_setCell_other w p q _ (by rintro rfl; exact hne rfl)]; exact hc1
  refine callsD_of_wpS Tryz.func80 rfl fun c₀ cs hu => ?_
  apply wpS_seq
  apply wpS_region
  simp [wpOpsS, go_sem, recoverD, hu, Tryz.ntmps80, Exit.thenS]
  apply wpS_seq
  apply wpS_region
  simp [wpOpsS, go_sem, Exit.thenS]
  refine wpS_cond (t := true) (by simp [Act.eval, Array.replicate]) ?_
  simp only [if_true]
  apply wpS_seq
  apply wpS_region
  simp [wpOpsS, go_sem, Exit.thenS, Array.replicate]
  apply wpS_region
  simp [wpOpsS, go_sem, hc, hz, hc2, hz1, bodyPostS, results, Tryz.results80]

theorem catch_idle (p q : Addr) (w : World) :
    CallsD Tryz.prog 80 #[.pointer (some p), .pointer (some q)] .returning w fun e u' w' => e = .returned (.tuple #[]) ∧ u' = .returning ∧ w' = w := by
  refine callsD_of_wpS Tryz.func80 rfl fun c₀ cs hu => ?_
  apply wpS_seq
  apply wpS_region
  simp [wpOpsS, go_sem, recoverD, hu, Tryz.ntmps80, Exit.thenS]
  apply wpS_seq
  apply wpS_region
  simp [wpOpsS, go_sem, Exit.thenS]
  refine wpS_cond (t := false) (by simp [Act.eval, Array.replicate]) ?_
  simp only [Bool.false_eq_true, if_false]
  refine wpS_of_wp (wp_skip ?_)
  cases c₀
  simp_all [bodyPostS, results, Tryz.results80]

theorem quot_ratio_in (x y z : Int) (x0 : -9007199254740992 ≤ x) (x1 : x ≤ 9007199254740992) (y0 : -9007199254740992 ≤ y) (y1 : y ≤ 9007199254740992) (z0 : -9007199254740992 ≤ z) (z1 : z ≤ 9007199254740992) (hz : z ≠ 0) (h : clB (flo (x * y) z) = false) (w : World) :
    Calls Tryz.prog 81 #[.int .i64 x, .int .i64 y, .int .i64 z] w fun e w' => e = .returned (.int .i64 (flo (x * y) z)) ∧ ∃ n, w' = w.drewN n :=
  (quot_ratio x y z x0 x1 y0 y1 z0 z1 hz w).mono fun e w' ⟨he, hw⟩ => ⟨by rw [he, h]; rfl, hw⟩
theorem quot_ratio_out (x y z : Int) (x0 : -9007199254740992 ≤ x) (x1 : x ≤ 9007199254740992) (y0 : -9007199254740992 ≤ y) (y1 : y ≤ 9007199254740992) (z0 : -9007199254740992 ≤ z) (z1 : z ≤ 9007199254740992) (hz : z ≠ 0) (h : clB (flo (x * y) z) = true) (w : World) :
    Calls Tryz.prog 81 #[.int .i64 x, .int .i64 y, .int .i64 z] w fun e w' => e = .panicked [{ v := .iface 81 (.int .i64 (clV (flo (x * y) z))), recovered := false }] ∧ ∃ n, w' = w.drewN n :=
  (quot_ratio x y z x0 x1 y0 y1 z0 z1 hz w).mono fun e w' ⟨he, hw⟩ => ⟨by rw [he, h, if_pos rfl], hw⟩

theorem quot_muldiv_zero (a b c : Int) (h : clV c = 0) (w : World) :
    Calls Tryz.prog 46 #[.int .i64 a, .int .i64 b, .int .i64 c] w fun e w' => e = .returned (.tuple #[.int .i64 (mqV a b c), .int .i64 (mqE a b c)]) ∧ Below w.heap.size w w' := by
  have ⟨HV, HE⟩ := mq_zero (a := a) (b := b) h
  rw [HV, HE]
  clear HV HE
  go_enter_defers Tryz.func46, Tryz.ntmps46
  go_wp2_with (first
    | (go_at_call 79; refine (quot_counted _ _).mono ?_; rintro e w' ⟨rfl, rfl⟩))
  refine ⟨_, by simp [results, Tryz.results46, go_sem]; rfl, ?_⟩
  exact ⟨rfl, ((Below.refl _ _).alloc (Nat.le_refl _) _).alloc (by simp) _⟩
theorem quot_muldiv_some (a b c : Int) (h : ¬ clV c = 0) (w : World) :
    Calls Tryz.prog 46 #[.int .i64 a, .int .i64 b, .int .i64 c] w fun e w' => e = .returned (.tuple #[.int .i64 (mqV a b c), .int .i64 (mqE a b c)]) ∧ Below w.heap.size w w' := by
  have hmf : ∀ (fn : Fn) (first cap : Array Value) (w : World), (Instr.makeFunc fn first cap).run Tryz.prog w = .ok (.func fn first cap) w := fun _ _ _ _ => rfl
  have hz0 : (clV c == 0) = false := by simpa using h
  have ⟨ha0, ha1⟩ := clV_bd a
  have ⟨hb0, hb1⟩ := clV_bd b
  have ⟨hc0, hc1⟩ := clV_bd c
  by_cases hB : clB (flo (clV a * clV b) (clV c)) = true
  · have HB := Lib.hid hB
    have e1 : mqV a b c = clV (flo (clV a * clV b) (clV c)) := by unfold mqV; rw [if_neg h]
    have e2 : mqE a b c = 3 := by unfold mqE; rw [if_neg h, if_pos hB]
    rw [e1, e2]
    clear hB e1 e2
    go_enter_defers Tryz.func46, Tryz.ntmps46
    go_wp2_with (first
      | (first
    | (go_at_call 79; refine (quot_counted _ _).mono ?_; rintro e w' ⟨rfl, rfl⟩))
      | (go_at_call 81; refine (quot_ratio_out _ _ _ ha0 ha1 hb0 hb1 hc0 hc1 h HB.out _).mono ?_; rintro e w' ⟨rfl, n, rfl⟩))
    generalize clV (flo (clV a * clV b) (clV c)) = l
    refine leaves_cons (f := 80) (args := #[.pointer (some ⟨w.heap.size, 0, none⟩), .pointer (some ⟨w.heap.size + 1, 0, none⟩)]) (by simp) (by simp [go_sem]) ?_
    refine (catch_panicking ⟨w.heap.size, 0, none⟩ ⟨w.heap.size + 1, 0, none⟩ l (.int .i64 0) (.int .i64 0) [] _ ?_ ?_ ?_ ?_ ?_).mono ?_
    · simp [go_sem]
    · simp [go_sem]
    · simp [go_sem]
    · simp [go_sem]
    · simp
    rintro e u' w'' ⟨rfl, rfl, rfl⟩
    simp [Leaves, settle, results, Tryz.results46, go_sem]
    exact (((at_drewN (((Below.refl _ _).alloc (Nat.le_refl _) _).alloc (by simp) _) n)).setCell (Nat.le_refl _) _).setCell (by simp) _
  · have hB0 : clB (flo (clV a * clV b) (clV c)) = false := by simpa using hB
    have HB := Lib.hid hB0
    have e1 : mqV a b c = flo (clV a * clV b) (clV c) := by unfold mqV; rw [if_neg h]; exact clV_same hB0
    have e2 : mqE a b c = 0 := by unfold mqE; rw [if_neg h, if_neg hB]
    rw [e1, e2]
    clear hB hB0 e1 e2
    go_enter_defers Tryz.func46, Tryz.ntmps46
    go_wp2_with (first
      | (first
    | (go_at_call 79; refine (quot_counted _ _).mono ?_; rintro e w' ⟨rfl, rfl⟩))
      | (go_at_call 81; refine (quot_ratio_in _ _ _ ha0 ha1 hb0 hb1 hc0 hc1 h HB.out _).mono ?_; rintro e w' ⟨rfl, n, rfl⟩))
    generalize flo (clV a * clV b) (clV c) = l
    refine leaves_cons (f := 80) (args := #[.pointer (some ⟨w.heap.size, 0, none⟩), .pointer (some ⟨w.heap.size + 1, 0, none⟩)]) (by simp) (by simp [go_sem]) ?_
    refine (catch_idle ⟨w.heap.size, 0, none⟩ ⟨w.heap.size + 1, 0, none⟩ _).mono ?_
    rintro e u' w'' ⟨rfl, rfl, rfl⟩
    simp [Leaves, settle, results, Tryz.results46, go_sem]
    exact (((at_drewN (((Below.refl _ _).alloc (Nat.le_refl _) _).alloc (by simp) _) n)).setCell (Nat.le_refl _) _).setCell (by simp) _

theorem quot_muldiv (a b c : Int) (w : World) :
    Calls Tryz.prog 46 #[.int .i64 a, .int .i64 b, .int .i64 c] w fun e w' => e = .returned (.tuple #[.int .i64 (mqV a b c), .int .i64 (mqE a b c)]) ∧ Below w.heap.size w w' := by
  by_cases h : clV c = 0
  · exact quot_muldiv_zero a b c h w
  · exact quot_muldiv_some a b c h w
end Go.Proofs.YtmocppghmdeahaaGreat
