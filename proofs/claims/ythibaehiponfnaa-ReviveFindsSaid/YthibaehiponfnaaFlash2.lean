/- Contracts of package flash, and of the document's: what goes well. -/
import Derived.Test.YthibaehiponfnaaFlash
namespace Go.Proofs.Ythibaehiponfnaa
set_option maxRecDepth 100000
open Go.RowKit
set_option linter.unusedVariables false
set_option linter.unusedSimpArgs false
attribute [local go_sem] cell_set_ite Near.cell Near.frozen

/-- How many bytes are to be written, behind a tick that goes well. -/
def nxV (n : Int) : Int := min (max n 0) 64 + 4
theorem nx_bd (n : Int) : 4 ≤ nxV n ∧ nxV n ≤ 68 := by unfold nxV; omega

set_option maxHeartbeats 2000000 in
theorem fl_begin_ok (a b : ByteArray) (k : Int) (c : ByteArray) (n : Int) (i : Int) (s : ByteArray) (h : i = 0 ∨ i = 1) (h1 : 1 ≤ (s.size : Int)) (h2 : (s.size : Int) ≤ 64) (w : World) :
    Calls Try.prog 14 #[.agg #[.string a, .string b, .bool false, .int .i64 k, .string c, .int .i64 n], .int .i64 i, .string s] w fun x w' =>
      x = .returned (.tuple #[.agg #[.string (fz i ⟨#[]⟩ a), .string (fz i b ⟨#[]⟩), .bool true, .int .i64 i, .string s, .int .i64 0], .int .i64 0]) ∧ Below w.heap.size w w' := by
  have hf := fst_none s (m := 0) (by omega)
  have HW := fun w => fl_written a b true i s 0 0 (by omega) (by omega) w
  rw [hf] at HW
  generalize fz i (⟨#[]⟩ : ByteArray) a = a' at *
  generalize fz i b (⟨#[]⟩ : ByteArray) = b' at *
  have H1 := Lib.hid HW
  clear HW hf
  have d0 : ((s.size : Int) < 1) = False := by simp; omega
  have d1 : (64 < (s.size : Int)) = False := by simp; omega
  rcases h with rfl | rfl
  · have A0 : Below w.heap.size w w := Below.refl _ _
    go_enter Try.func14, Try.ntmps14
    go_wp2_with (fail)
    refine (H1.out _).mono ?_
    rintro e w1 ⟨rfl, hb⟩
    have A1 := below_call (below_alloc_on (below_alloc_on (below_alloc_on A0 _) _) _) hb
    have B1 := ((box_at (w.alloc _) _ _ (g := w.heap.size + 1) (by simp)).alloc _).below hb
    clear hb A0
    obtain ⟨b0, b1, b2, b3, b4, b5, bf, bl⟩ := B1.six
    go_wp2
    exact bodyPost_ret (v := .tuple #[.agg #[.string a', .string b', .bool true, .int .i64 0, .string s, .int .i64 0], .int .i64 0]) (by simp [results, Try.results14, go_sem, b0, b1, b2, b3, b4, b5]) rfl ⟨rfl, by (repeat (first | (with_reducible exact Below.refl _ _) | (with_reducible assumption) | (with_reducible refine Near.up _ ?_) | (with_reducible refine Below.drew ?_) | (with_reducible refine below_alloc_on ?_ _) | (with_reducible refine below_set_on ?_ (by first | (simp; done) | (simp; omega) | omega) _)))⟩
  · have A0 : Below w.heap.size w w := Below.refl _ _
    go_enter Try.func14, Try.ntmps14
    go_wp2_with (fail)
    refine (H1.out _).mono ?_
    rintro e w1 ⟨rfl, hb⟩
    have A1 := below_call (below_alloc_on (below_alloc_on (below_alloc_on A0 _) _) _) hb
    have B1 := ((box_at (w.alloc _) _ _ (g := w.heap.size + 1) (by simp)).alloc _).below hb
    clear hb A0
    obtain ⟨b0, b1, b2, b3, b4, b5, bf, bl⟩ := B1.six
    go_wp2
    exact bodyPost_ret (v := .tuple #[.agg #[.string a', .string b', .bool true, .int .i64 1, .string s, .int .i64 0], .int .i64 0]) (by simp [results, Try.results14, go_sem, b0, b1, b2, b3, b4, b5]) rfl ⟨rfl, by (repeat (first | (with_reducible exact Below.refl _ _) | (with_reducible assumption) | (with_reducible refine Near.up _ ?_) | (with_reducible refine Below.drew ?_) | (with_reducible refine below_alloc_on ?_ _) | (with_reducible refine below_set_on ?_ (by first | (simp; done) | (simp; omega) | omega) _)))⟩

set_option maxHeartbeats 2000000 in
theorem fl_step_idle (a b : ByteArray) (k : Int) (c : ByteArray) (n : Int) (v : Bool) (w : World) :
    Calls Try.prog 7 #[.agg #[.string a, .string b, .bool false, .int .i64 k, .string c, .int .i64 n], .bool v] w fun x w' =>
      x = .returned (.tuple #[.agg #[.string a, .string b, .bool false, .int .i64 k, .string c, .int .i64 n], .int .i64 0]) ∧ Below w.heap.size w w' := by
  go_enter Try.func7, Try.ntmps7
  go_wp2
  exact bodyPost_ret (v := .tuple #[.agg #[.string a, .string b, .bool false, .int .i64 k, .string c, .int .i64 n], .int .i64 0]) (by simp [results, Try.results7, go_sem]) rfl ⟨rfl, by (repeat (first | (with_reducible exact Below.refl _ _) | (with_reducible assumption) | (with_reducible refine Near.up _ ?_) | (with_reducible refine Below.drew ?_) | (with_reducible refine below_alloc_on ?_ _) | (with_reducible refine below_set_on ?_ (by first | (simp; done) | (simp; omega) | omega) _)))⟩

set_option maxHeartbeats 2000000 in
theorem fl_step_torn (a b : ByteArray) (k : Int) (c : ByteArray) (n : Int) (w : World) :
    Calls Try.prog 7 #[.agg #[.string a, .string b, .bool true, .int .i64 k, .string c, .int .i64 n], .bool false] w fun x w' =>
      x = .returned (.tuple #[.agg #[.string a, .string b, .bool false, .int .i64 k, .string ⟨#[]⟩, .int .i64 0], .int .i64 2]) ∧ Below w.heap.size w w' := by
  have A0 : Below w.heap.size w w := Below.refl _ _
  go_enter Try.func7, Try.ntmps7
  go_wp2_with (fail)
  refine (fl_idle _ _ _ _ _ _ _).mono ?_
  rintro e w1 ⟨rfl, hb⟩
  have A1 := below_call (below_alloc_on (below_alloc_on A0 _) _) hb
  have B1 := (box_at (w.alloc _) _ _ (g := w.heap.size + 1) (by simp)).below hb
  clear hb A0
  obtain ⟨b0, b1, b2, b3, b4, b5, bf, bl⟩ := B1.six
  go_wp2
  exact bodyPost_ret (v := .tuple #[.agg #[.string a, .string b, .bool false, .int .i64 k, .string ⟨#[]⟩, .int .i64 0], .int .i64 2]) (by simp [results, Try.results7, go_sem, b0, b1, b2, b3, b4, b5]) rfl ⟨rfl, by (repeat (first | (with_reducible exact Below.refl _ _) | (with_reducible assumption) | (with_reducible refine Near.up _ ?_) | (with_reducible refine Below.drew ?_) | (with_reducible refine below_alloc_on ?_ _) | (with_reducible refine below_set_on ?_ (by first | (simp; done) | (simp; omega) | omega) _)))⟩

theorem nx_ways (n : Int) : (n < 0 ∧ nxV n = 4) ∨ (0 ≤ n ∧ n ≤ 64 ∧ nxV n = n + 4) ∨ (64 < n ∧ nxV n = 68) := by unfold nxV; omega
set_option maxHeartbeats 2000000 in
theorem fl_step_done (a b : ByteArray) (k : Int) (c : ByteArray) (n : Int) (h : (c.size : Int) ≤ nxV n) (w : World) :
    Calls Try.prog 7 #[.agg #[.string a, .string b, .bool true, .int .i64 k, .string c, .int .i64 n], .bool true] w fun x w' =>
      x = .returned (.tuple #[.agg #[.string (fz k c a), .string (fz k b c), .bool false, .int .i64 k, .string ⟨#[]⟩, .int .i64 0], .int .i64 1]) ∧ Below w.heap.size w w' := by
  have HW := fun w => fl_written a b true k c n (c.size : Int) (by omega) (by omega) w
  have hf := fst_all c (m := (c.size : Int)) (by omega)
  rw [hf] at HW
  have HI := fun w => fl_idle (fz k c a) (fz k b c) true k c (c.size : Int) w
  generalize fz k c a = a9 at *
  generalize fz k b c = b9 at *
  have A0 : Below w.heap.size w w := Below.refl _ _
  have H1 := Lib.hid HW
  have H2 := Lib.hid HI
  clear HW HI hf
  rcases nx_ways n with ⟨c1, e⟩ | ⟨c1, c2, e⟩ | ⟨c1, e⟩
  · rw [e] at h
    have d0 := decide_eq_false (p := 4 < (c.size : Int)) (by omega)
    clear e
    go_enter Try.func7, Try.ntmps7
    go_wp2_with (fail)
    refine (H1.out _).mono ?_
    rintro e w1 ⟨rfl, hb⟩
    have A1 := below_call (below_alloc_on (below_alloc_on A0 _) _) hb
    have B1 := (box_at (w.alloc _) _ _ (g := w.heap.size + 1) (by simp)).below hb
    clear hb A0
    go_wp2_with (fail)
    refine (H2.out _).mono ?_
    rintro e w2 ⟨rfl, hb⟩
    have A2 := below_call A1 hb
    have B2 := B1.below hb
    clear hb A1 B1
    obtain ⟨b0, b1, b2, b3, b4, b5, bf, bl⟩ := B2.six
    go_wp2
    exact bodyPost_ret (v := .tuple #[.agg #[.string a9, .string b9, .bool false, .int .i64 k, .string ⟨#[]⟩, .int .i64 0], .int .i64 1]) (by simp [results, Try.results7, go_sem, b0, b1, b2, b3, b4, b5]) rfl ⟨rfl, by (repeat (first | (with_reducible exact Below.refl _ _) | (with_reducible assumption) | (with_reducible refine Near.up _ ?_) | (with_reducible refine Below.drew ?_) | (with_reducible refine below_alloc_on ?_ _) | (with_reducible refine below_set_on ?_ (by first | (simp; done) | (simp; omega) | omega) _)))⟩
  · rw [e] at h
    have d0 := decide_eq_false (p := (n + 4) < (c.size : Int)) (by omega)
    clear e
    go_enter Try.func7, Try.ntmps7
    go_wp2_with (fail)
    refine (H1.out _).mono ?_
    rintro e w1 ⟨rfl, hb⟩
    have A1 := below_call (below_alloc_on (below_alloc_on A0 _) _) hb
    have B1 := (box_at (w.alloc _) _ _ (g := w.heap.size + 1) (by simp)).below hb
    clear hb A0
    go_wp2_with (fail)
    refine (H2.out _).mono ?_
    rintro e w2 ⟨rfl, hb⟩
    have A2 := below_call A1 hb
    have B2 := B1.below hb
    clear hb A1 B1
    obtain ⟨b0, b1, b2, b3, b4, b5, bf, bl⟩ := B2.six
    go_wp2
    exact bodyPost_ret (v := .tuple #[.agg #[.string a9, .string b9, .bool false, .int .i64 k, .string ⟨#[]⟩, .int .i64 0], .int .i64 1]) (by simp [results, Try.results7, go_sem, b0, b1, b2, b3, b4, b5]) rfl ⟨rfl, by (repeat (first | (with_reducible exact Below.refl _ _) | (with_reducible assumption) | (with_reducible refine Near.up _ ?_) | (with_reducible refine Below.drew ?_) | (with_reducible refine below_alloc_on ?_ _) | (with_reducible refine below_set_on ?_ (by first | (simp; done) | (simp; omega) | omega) _)))⟩
  · rw [e] at h
    have d0 := decide_eq_false (p := 68 < (c.size : Int)) (by omega)
    clear e
    go_enter Try.func7, Try.ntmps7
    go_wp2_with (fail)
    refine (H1.out _).mono ?_
    rintro e w1 ⟨rfl, hb⟩
    have A1 := below_call (below_alloc_on (below_alloc_on A0 _) _) hb
    have B1 := (box_at (w.alloc _) _ _ (g := w.heap.size + 1) (by simp)).below hb
    clear hb A0
    go_wp2_with (fail)
    refine (H2.out _).mono ?_
    rintro e w2 ⟨rfl, hb⟩
    have A2 := below_call A1 hb
    have B2 := B1.below hb
    clear hb A1 B1
    obtain ⟨b0, b1, b2, b3, b4, b5, bf, bl⟩ := B2.six
    go_wp2
    exact bodyPost_ret (v := .tuple #[.agg #[.string a9, .string b9, .bool false, .int .i64 k, .string ⟨#[]⟩, .int .i64 0], .int .i64 1]) (by simp [results, Try.results7, go_sem, b0, b1, b2, b3, b4, b5]) rfl ⟨rfl, by (repeat (first | (with_reducible exact Below.refl _ _) | (with_reducible assumption) | (with_reducible refine Near.up _ ?_) | (with_reducible refine Below.drew ?_) | (with_reducible refine below_alloc_on ?_ _) | (with_reducible refine below_set_on ?_ (by first | (simp; done) | (simp; omega) | omega) _)))⟩

set_option maxHeartbeats 2000000 in
theorem fl_cut_idle (a b : ByteArray) (k : Int) (c : ByteArray) (n : Int) (t : ByteArray) (w : World) :
    Calls Try.prog 10 #[.agg #[.string a, .string b, .bool false, .int .i64 k, .string c, .int .i64 n], .string t] w fun x w' =>
      x = .returned (.agg #[.string a, .string b, .bool false, .int .i64 k, .string ⟨#[]⟩, .int .i64 0]) ∧ Below w.heap.size w w' := by
  have A0 : Below w.heap.size w w := Below.refl _ _
  go_enter Try.func10, Try.ntmps10
  go_wp2_with (fail)
  refine (fl_idle _ _ _ _ _ _ _).mono ?_
  rintro e w1 ⟨rfl, hb⟩
  have A1 := below_call (below_alloc_on (below_alloc_on A0 _) _) hb
  have B1 := (box_at (w.alloc _) _ _ (g := w.heap.size + 1) (by simp)).below hb
  clear hb A0
  obtain ⟨b0, b1, b2, b3, b4, b5, bf, bl⟩ := B1.six
  go_wp2
  exact bodyPost_ret (v := .agg #[.string a, .string b, .bool false, .int .i64 k, .string ⟨#[]⟩, .int .i64 0]) (by simp [results, Try.results10, go_sem, b0, b1, b2, b3, b4, b5]) rfl ⟨rfl, by (repeat (first | (with_reducible exact Below.refl _ _) | (with_reducible assumption) | (with_reducible refine Near.up _ ?_) | (with_reducible refine Below.drew ?_) | (with_reducible refine below_alloc_on ?_ _) | (with_reducible refine below_set_on ?_ (by first | (simp; done) | (simp; omega) | omega) _)))⟩

theorem fst_min (t : ByteArray) : fst t (min (t.size : Int) 64) = fst t 64 := by
  rcases Int.le_total (t.size : Int) 64 with h | h
  · rw [fst_all t (by omega), fst_all t (by omega)]
  · rw [show min (t.size : Int) 64 = 64 by omega]

end Go.Proofs.Ythibaehiponfnaa
