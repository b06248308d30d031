/- Contracts of package flash: a tick that goes on, a cut while it is busy. -/
import Derived.Test.YthibaehiponfnaaFlash2
namespace Go.Proofs.Ythibaehiponfnaa
set_option maxRecDepth 100000
open Go.RowKit
set_option linter.unusedVariables false
set_option linter.unusedSimpArgs false
attribute [local go_sem] cell_set_ite Near.cell Near.frozen

set_option maxHeartbeats 2000000 in
theorem fl_step_goes (a b : ByteArray) (k : Int) (c : ByteArray) (n : Int) (h : nxV n < (c.size : Int)) (w : World) :
    Calls Try.prog 7 #[.agg #[.string a, .string b, .bool true, .int .i64 k, .string c, .int .i64 n], .bool true] w fun x w' =>
      x = .returned (.tuple #[.agg #[.string (fz k (fst c (nxV n)) a), .string (fz k b (fst c (nxV n))), .bool true, .int .i64 k, .string c, .int .i64 (nxV n)], .int .i64 0]) ∧ Below w.heap.size w w' := by
  have HW := fun w => fl_written a b true k c n (nxV n) (by have := nx_bd n; omega) (by omega) w
  have A0 : Below w.heap.size w w := Below.refl _ _
  rcases nx_ways n with ⟨c1, e⟩ | ⟨c1, c2, e⟩ | ⟨c1, e⟩
  · rw [e] at HW h ⊢
    generalize fz k (fst c 4) a = a9 at *
    generalize fz k b (fst c 4) = b9 at *
    have H1 := Lib.hid HW
    clear HW e
    go_enter Try.func7, Try.ntmps7
    go_wp2_with (fail)
    refine (H1.out _).mono ?_
    rintro e w1 ⟨rfl, hb⟩
    have A1 := below_call (below_alloc_on (below_alloc_on A0 _) _) hb
    have B1 := (box_at (w.alloc _) _ _ (g := w.heap.size + 1) (by simp)).below hb
    clear hb A0
    obtain ⟨b0, b1, b2, b3, b4, b5, bf, bl⟩ := B1.six
    go_wp2
    exact bodyPost_ret (v := .tuple #[.agg #[.string a9, .string b9, .bool true, .int .i64 k, .string c, .int .i64 4], .int .i64 0]) (by simp [results, Try.results7, go_sem, b0, b1, b2, b3, b4, b5]) rfl ⟨rfl, by (repeat (first | (with_reducible exact Below.refl _ _) | (with_reducible assumption) | (with_reducible refine Near.up _ ?_) | (with_reducible refine Below.drew ?_) | (with_reducible refine below_alloc_on ?_ _) | (with_reducible refine below_set_on ?_ (by first | (simp; done) | (simp; omega) | omega) _)))⟩
  · rw [e] at HW h ⊢
    generalize fz k (fst c (n + 4)) a = a9 at *
    generalize fz k b (fst c (n + 4)) = b9 at *
    have H1 := Lib.hid HW
    clear HW e
    go_enter Try.func7, Try.ntmps7
    go_wp2_with (fail)
    refine (H1.out _).mono ?_
    rintro e w1 ⟨rfl, hb⟩
    have A1 := below_call (below_alloc_on (below_alloc_on A0 _) _) hb
    have B1 := (box_at (w.alloc _) _ _ (g := w.heap.size + 1) (by simp)).below hb
    clear hb A0
    obtain ⟨b0, b1, b2, b3, b4, b5, bf, bl⟩ := B1.six
    go_wp2
    exact bodyPost_ret (v := .tuple #[.agg #[.string a9, .string b9, .bool true, .int .i64 k, .string c, .int .i64 (n + 4)], .int .i64 0]) (by simp [results, Try.results7, go_sem, b0, b1, b2, b3, b4, b5]) rfl ⟨rfl, by (repeat (first | (with_reducible exact Below.refl _ _) | (with_reducible assumption) | (with_reducible refine Near.up _ ?_) | (with_reducible refine Below.drew ?_) | (with_reducible refine below_alloc_on ?_ _) | (with_reducible refine below_set_on ?_ (by first | (simp; done) | (simp; omega) | omega) _)))⟩
  · rw [e] at HW h ⊢
    generalize fz k (fst c 68) a = a9 at *
    generalize fz k b (fst c 68) = b9 at *
    have H1 := Lib.hid HW
    clear HW e
    go_enter Try.func7, Try.ntmps7
    go_wp2_with (fail)
    refine (H1.out _).mono ?_
    rintro e w1 ⟨rfl, hb⟩
    have A1 := below_call (below_alloc_on (below_alloc_on A0 _) _) hb
    have B1 := (box_at (w.alloc _) _ _ (g := w.heap.size + 1) (by simp)).below hb
    clear hb A0
    obtain ⟨b0, b1, b2, b3, b4, b5, bf, bl⟩ := B1.six
    go_wp2
    exact bodyPost_ret (v := .tuple #[.agg #[.string a9, .string b9, .bool true, .int .i64 k, .string c, .int .i64 68], .int .i64 0]) (by simp [results, Try.results7, go_sem, b0, b1, b2, b3, b4, b5]) rfl ⟨rfl, by (repeat (first | (with_reducible exact Below.refl _ _) | (with_reducible assumption) | (with_reducible refine Near.up _ ?_) | (with_reducible refine Below.drew ?_) | (with_reducible refine below_alloc_on ?_ _) | (with_reducible refine below_set_on ?_ (by first | (simp; done) | (simp; omega) | omega) _)))⟩

set_option maxHeartbeats 2000000 in
theorem fl_cut_busy (a b : ByteArray) (k : Int) (c : ByteArray) (n : Int) (t : ByteArray) (w : World) :
    Calls Try.prog 10 #[.agg #[.string a, .string b, .bool true, .int .i64 k, .string c, .int .i64 n], .string t] w fun x w' =>
      x = .returned (.agg #[.string (fz k (fst t 64) a), .string (fz k b (fst t 64)), .bool false, .int .i64 k, .string ⟨#[]⟩, .int .i64 0]) ∧ Below w.heap.size w w' := by
  have A0 : Below w.heap.size w w := Below.refl _ _
  have HF := fun w => fl_filled a b true k c n (fst t 64) w
  have HI := fun w => fl_idle (fz k (fst t 64) a) (fz k b (fst t 64)) true k c n w
  rcases Int.lt_or_le 64 (t.size : Int) with h | h
  · obtain ⟨p, hp⟩ : ∃ p, fst t 64 = p := ⟨_, rfl⟩
    have hs : ∀ ty w, Try.prog.underlying ty = some .string → (Instr.slice ty (.string t) none (some (.int .i64 64)) none).run Try.prog w = .ok (.string p) w := fun ty w ht =>
      (run_slice_string_h (ht := ht) (h0 := by omega) (h2 := by omega) ..).trans (by rw [← hp]; rfl)
    rw [hp] at HF HI ⊢
    clear hp
    generalize fz k p a = a9 at *
    generalize fz k b p = b9 at *
    have H1 := Lib.hid HF
    have H2 := Lib.hid HI
    clear HF HI
    go_enter Try.func10, Try.ntmps10
    go_wp2
    refine wp_region_calm_tail 7 (by kernel_rfl) (by kernel_rfl) ?_
    simp only [List.take_succ_cons, List.take_zero, List.drop_succ_cons, List.drop_zero]
    repeat (go_big_quiet_step (((go_at_call 23; exact calm_of _ (H1.out _)))))
    refine wpQuiet_nil ?_
    intro _ hw'
    obtain ⟨u, rfl⟩ := hw'
    have A1 := u.up (below_alloc_on (below_alloc_on A0 (.cells #[.string a, .string b, .bool true, .int .i64 k, .string c, .int .i64 n] 34)) (.cells #[.string ⟨#[]⟩, .string ⟨#[]⟩, .bool false, .int .i64 0, .string ⟨#[]⟩, .int .i64 0] 34))
    have B1 := (box_at (w.alloc (.cells #[.string a, .string b, .bool true, .int .i64 k, .string c, .int .i64 n] 34)) #[.string ⟨#[]⟩, .string ⟨#[]⟩, .bool false, .int .i64 0, .string ⟨#[]⟩, .int .i64 0] 34 (g := w.heap.size + 1) (by simp)).near u
    have C1 := ((box_new w #[.string a, .string b, .bool true, .int .i64 k, .string c, .int .i64 n] 34).alloc (.cells #[.string ⟨#[]⟩, .string ⟨#[]⟩, .bool false, .int .i64 0, .string ⟨#[]⟩, .int .i64 0] 34)).near u
    go_wp2_with (fail)
    refine (H2.out _).mono ?_
    rintro e w2 ⟨rfl, hb⟩
    have hne : w.heap.size ≠ w.heap.size + 1 := by omega
    have B2 := ((((((B1.far (p := ⟨w.heap.size, 0, none⟩) hne _).far (p := ⟨w.heap.size, 1, none⟩) hne _).far (p := ⟨w.heap.size, 2, none⟩) hne _).far (p := ⟨w.heap.size, 3, none⟩) hne _).far (p := ⟨w.heap.size, 4, none⟩) hne _).far (p := ⟨w.heap.size, 5, none⟩) hne _).below hb
    have A2 : Below w.heap.size w w2 := by
      refine below_call ?_ hb
      (repeat (first | (with_reducible exact Below.refl _ _) | (with_reducible assumption) | (with_reducible refine Near.up _ ?_) | (with_reducible refine Below.drew ?_) | (with_reducible refine below_alloc_on ?_ _) | (with_reducible refine below_set_on ?_ (by first | (simp; done) | (simp; omega) | omega) _)))
    clear hb A1 B1 C1
    obtain ⟨b0, b1, b2, b3, b4, b5, bf, bl⟩ := B2.six
    go_wp2
    exact bodyPost_ret (v := .agg #[.string a9, .string b9, .bool false, .int .i64 k, .string ⟨#[]⟩, .int .i64 0]) (by simp [results, Try.results10, go_sem, b0, b1, b2, b3, b4, b5]) rfl ⟨rfl, by (repeat (first | (with_reducible exact Below.refl _ _) | (with_reducible assumption) | (with_reducible refine Near.up _ ?_) | (with_reducible refine Below.drew ?_) | (with_reducible refine below_alloc_on ?_ _) | (with_reducible refine below_set_on ?_ (by first | (simp; done) | (simp; omega) | omega) _)))⟩
  · rw [fst_all t h] at HF HI ⊢
    generalize fz k t a = a9 at *
    generalize fz k b t = b9 at *
    have H1 := Lib.hid HF
    have H2 := Lib.hid HI
    clear HF HI
    go_enter Try.func10, Try.ntmps10
    go_wp2
    refine wp_region_calm_tail 7 (by kernel_rfl) (by kernel_rfl) ?_
    simp only [List.take_succ_cons, List.take_zero, List.drop_succ_cons, List.drop_zero]
    repeat (go_big_quiet_step (((go_at_call 23; exact calm_of _ (H1.out _)))))
    refine wpQuiet_nil ?_
    intro _ hw'
    obtain ⟨u, rfl⟩ := hw'
    have A1 := u.up (below_alloc_on (below_alloc_on A0 (.cells #[.string a, .string b, .bool true, .int .i64 k, .string c, .int .i64 n] 34)) (.cells #[.string ⟨#[]⟩, .string ⟨#[]⟩, .bool false, .int .i64 0, .string ⟨#[]⟩, .int .i64 0] 34))
    have B1 := (box_at (w.alloc (.cells #[.string a, .string b, .bool true, .int .i64 k, .string c, .int .i64 n] 34)) #[.string ⟨#[]⟩, .string ⟨#[]⟩, .bool false, .int .i64 0, .string ⟨#[]⟩, .int .i64 0] 34 (g := w.heap.size + 1) (by simp)).near u
    have C1 := ((box_new w #[.string a, .string b, .bool true, .int .i64 k, .string c, .int .i64 n] 34).alloc (.cells #[.string ⟨#[]⟩, .string ⟨#[]⟩, .bool false, .int .i64 0, .string ⟨#[]⟩, .int .i64 0] 34)).near u
    go_wp2_with (fail)
    refine (H2.out _).mono ?_
    rintro e w2 ⟨rfl, hb⟩
    have hne : w.heap.size ≠ w.heap.size + 1 := by omega
    have B2 := ((((((B1.far (p := ⟨w.heap.size, 0, none⟩) hne _).far (p := ⟨w.heap.size, 1, none⟩) hne _).far (p := ⟨w.heap.size, 2, none⟩) hne _).far (p := ⟨w.heap.size, 3, none⟩) hne _).far (p := ⟨w.heap.size, 4, none⟩) hne _).far (p := ⟨w.heap.size, 5, none⟩) hne _).below hb
    have A2 : Below w.heap.size w w2 := by
      refine below_call ?_ hb
      (repeat (first | (with_reducible exact Below.refl _ _) | (with_reducible assumption) | (with_reducible refine Near.up _ ?_) | (with_reducible refine Below.drew ?_) | (with_reducible refine below_alloc_on ?_ _) | (with_reducible refine below_set_on ?_ (by first | (simp; done) | (simp; omega) | omega) _)))
    clear hb A1 B1 C1
    obtain ⟨b0, b1, b2, b3, b4, b5, bf, bl⟩ := B2.six
    go_wp2
    exact bodyPost_ret (v := .agg #[.string a9, .string b9, .bool false, .int .i64 k, .string ⟨#[]⟩, .int .i64 0]) (by simp [results, Try.results10, go_sem, b0, b1, b2, b3, b4, b5]) rfl ⟨rfl, by (repeat (first | (with_reducible exact Below.refl _ _) | (with_reducible assumption) | (with_reducible refine Near.up _ ?_) | (with_reducible refine Below.drew ?_) | (with_reducible refine below_alloc_on ?_ _) | (with_reducible refine below_set_on ?_ (by first | (simp; done) | (simp; omega) | omega) _)))⟩

end Go.Proofs.Ythibaehiponfnaa
