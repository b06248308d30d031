/- A reader of bytes: contract of step. -/
import Derived.Test.YteeiebopfjlffaaRdW
namespace Go.Proofs.Yteeiebopfjlffaa
open Go.RowKit Ieee
set_option linter.unusedVariables false
set_option linter.unusedSimpArgs false
set_option maxRecDepth 100000
attribute [local go_sem] cell_set_ite run_store_real

theorem Rwb.setA {g A : Nat} {w w1 : World} {l : List UInt8} {b : Bool} {cs : Array Value} (h : Rwb g w l b A cs w1) (hg : g < w.heap.size) {i : Nat} (hi : i < cs.size) (v : Value) : Rwb g w l b A (cs.setIfInBounds i v) (w1.setCell ⟨A, i, none⟩ v) :=
  ⟨⟨h.rd.1.far (by have := h.old; simp; omega) _, gb_new h.rd.2 h.old i v⟩, h.bx.set hi v, h.old⟩
theorem Rwb.wrong {g A : Nat} {w w1 : World} {l : List UInt8} {b : Bool} {cs : Array Value} (h : Rwb g w l b A cs w1) (hg : g < w.heap.size) : Rwb g w l true A cs (w1.setCell ⟨g, 1, none⟩ (.bool true)) :=
  ⟨rd_wrong h.rd, h.bx.far (by have := h.old; simp; omega) _, h.old⟩
def zeroS : Array Value := #[.float .f64 0, .float .f64 0, .float .f64 0, .float .f64 0, .bool false, .int .i64 0, .bool false, .bool false, .string ⟨#[]⟩]
set_option maxHeartbeats 4000000 in
theorem rd_step (g : Nat) (l : List UInt8) (b : Bool) (hl : l.length ≤ 100000) (w : World) (hB : Box w g (rdC l b)) :
    Calls Try.prog 19 #[.pointer (some ⟨g, 0, none⟩)] w fun e w' => e = .returned (spV (stV l)) ∧ Rdr g w (stR l) (b || stW l) w' := by
  have K1 := Lib.hid fun w' x => rd_number g 1 l b (by omega) (by omega) hl w' x
  have n1 := rdR_len l 1
  have K2 := Lib.hid fun w' x => rd_raw g (rdR l 1) (b || rdW l 1) (by omega) w' x
  have K3 := Lib.hid fun w' x => rd_torn g (rdR l 1) (b || rdW l 1) (by omega) w' x
  have hg := hB.1
  have X0 : Rwb g w l b w.heap.size zeroS (w.alloc (.cells zeroS 35)) := ⟨⟨hB.alloc _, World.grownBy_alloc _ _ _⟩, box_new _ _ _, Nat.le_refl _⟩
  have X0 := Lib.hid X0
  clear hB
  by_cases h0 : rdV l 1 = 0
  · have e1 : spV (stV l) = .agg #[.float .f64 (rwV (rdR l 1)).adc, .float .f64 (rwV (rdR l 1)).tilt, .float .f64 (rwV (rdR l 1)).bat, .float .f64 (rwV (rdR l 1)).enc, .bool (rwV (rdR l 1)).door, .int .i64 (rwV (rdR l 1)).key, .bool (rwV (rdR l 1)).wr, .bool false, .string ⟨#[]⟩] := by
      unfold stV; rw [if_pos h0]; rfl
    have e2 : stR l = rwR (rdR l 1) := by unfold stR; rw [if_pos h0]
    have e3 : (b || stW l) = ((b || rdW l 1) || rwW (rdR l 1)) := by unfold stW; rw [if_pos h0, Bool.or_assoc]
    rw [e1, e2, e3]
    rw [h0] at K1
    unfold rwW' at K2
    clear K3 e1 e2 e3 h0
    generalize (b || rdW l 1) = b1 at *
    generalize (b1 || rwW (rdR l 1)) = b2 at *
    generalize rwR (rdR l 1) = l2 at *
    generalize (rwV (rdR l 1)) = r at *
    generalize rdR l 1 = l1 at *
    obtain ⟨adc, tilt, bat, enc, door, key, wr⟩ := r
    simp only at K2 ⊢
    go_enter Try.func19, Try.ntmps19
    go_wp2_with (fail)
    refine (K1.out _ X0.out.rd.1).mono ?_
    rintro e w1 ⟨rfl, x⟩
    have X1 := Lib.hid (X0.out.then hg x)
    clear x X0
    go_wp2_with (fail)
    refine (K2.out _ X1.out.rd.1).mono ?_
    rintro e w2 ⟨rfl, x⟩
    have X2 := Lib.hid (X1.out.then hg x)
    clear x X1
    have c0 := X2.out.bx.2.1 0
    have c1 := X2.out.bx.2.1 1
    have c2 := X2.out.bx.2.1 2
    have c3 := X2.out.bx.2.1 3
    have c4 := X2.out.bx.2.1 4
    have c5 := X2.out.bx.2.1 5
    have c6 := X2.out.bx.2.1 6
    have c7 := X2.out.bx.2.1 7
    have c8 := X2.out.bx.2.1 8
    have f0 := X2.out.bx.2.2 0
    have f1 := X2.out.bx.2.2 1
    have f2 := X2.out.bx.2.2 2
    have f3 := X2.out.bx.2.2 3
    have f4 := X2.out.bx.2.2 4
    have f5 := X2.out.bx.2.2 5
    have f6 := X2.out.bx.2.2 6
    have f7 := X2.out.bx.2.2 7
    have f8 := X2.out.bx.2.2 8
    simp [zeroS] at c0 c1 c2 c3 c4 c5 c6 c7 c8
    have XE := Lib.hid (((((((((X2.out.setA hg (i := 0) (by simp [zeroS]) (.float .f64 adc)).setA hg (i := 1) (by simp [zeroS]) (.float .f64 tilt)).setA hg (i := 2) (by simp [zeroS]) (.float .f64 bat)).setA hg (i := 3) (by simp [zeroS]) (.float .f64 enc)).setA hg (i := 4) (by simp [zeroS]) (.bool door)).setA hg (i := 5) (by simp [zeroS]) (.int .i64 key)).setA hg (i := 6) (by simp [zeroS]) (.bool wr)).setA hg (i := 7) (by simp [zeroS]) (.bool false)).setA hg (i := 8) (by simp [zeroS]) (.string ⟨#[]⟩))
    clear X2
    go_wp2_with (fail)
    generalize (((((((((w2.setCell { block := w.heap.size, off := 0 } (Value.float .f64 adc)).setCell { block := w.heap.size, off := 1 } (Value.float .f64 tilt)).setCell { block := w.heap.size, off := 2 } (Value.float .f64 bat)).setCell { block := w.heap.size, off := 3 } (Value.float .f64 enc)).setCell { block := w.heap.size, off := 4 } (Value.bool door)).setCell { block := w.heap.size, off := 5 } (Value.int .i64 key)).setCell { block := w.heap.size, off := 6 } (Value.bool wr)).setCell { block := w.heap.size, off := 7 } (Value.bool false)).setCell { block := w.heap.size, off := 8 } (Value.string ⟨#[]⟩)) = wE at *
    clear c0 c1 c2 c3 c4 c5 c6 c7 c8
    have c0 := XE.out.bx.2.1 0
    have c1 := XE.out.bx.2.1 1
    have c2 := XE.out.bx.2.1 2
    have c3 := XE.out.bx.2.1 3
    have c4 := XE.out.bx.2.1 4
    have c5 := XE.out.bx.2.1 5
    have c6 := XE.out.bx.2.1 6
    have c7 := XE.out.bx.2.1 7
    have c8 := XE.out.bx.2.1 8
    simp [zeroS] at c0 c1 c2 c3 c4 c5 c6 c7 c8
    refine bodyPost_ret (v := .agg #[.float .f64 adc, .float .f64 tilt, .float .f64 bat, .float .f64 enc, .bool door, .int .i64 key, .bool wr, .bool false, .string ⟨#[]⟩]) (by simp [results, Try.results19, go_sem, c0, c1, c2, c3, c4, c5, c6, c7, c8]) rfl ⟨rfl, XE.out.rd⟩
  by_cases h1 : rdV l 1 = 1
  · have e1 : spV (stV l) = .agg #[.float .f64 0, .float .f64 0, .float .f64 0, .float .f64 0, .bool false, .int .i64 0, .bool false, .bool true, .string (tnV (rdR l 1))] := by
      unfold stV; rw [if_neg h0, if_pos h1]; rfl
    have e2 : stR l = tnR (rdR l 1) := by unfold stR; rw [if_neg h0, if_pos h1]
    have e3 : (b || stW l) = ((b || rdW l 1) || tnW (rdR l 1)) := by unfold stW; rw [if_neg h0, if_pos h1, Bool.or_assoc]
    rw [e1, e2, e3]
    rw [h1] at K1
    clear K2 e1 e2 e3 h0 h1
    generalize (b || rdW l 1) = b1 at *
    generalize (b1 || tnW (rdR l 1)) = b2 at *
    generalize tnR (rdR l 1) = l2 at *
    generalize tnV (rdR l 1) = tv at *
    generalize rdR l 1 = l1 at *
    go_enter Try.func19, Try.ntmps19
    go_wp2_with (fail)
    refine (K1.out _ X0.out.rd.1).mono ?_
    rintro e w1 ⟨rfl, x⟩
    have X1 := Lib.hid (X0.out.then hg x)
    clear x X0
    go_wp2_with (fail)
    refine (K3.out _ X1.out.rd.1).mono ?_
    rintro e w2 ⟨rfl, x⟩
    have X2 := Lib.hid (X1.out.then hg x)
    clear x X1
    have c0 := X2.out.bx.2.1 0
    have c1 := X2.out.bx.2.1 1
    have c2 := X2.out.bx.2.1 2
    have c3 := X2.out.bx.2.1 3
    have c4 := X2.out.bx.2.1 4
    have c5 := X2.out.bx.2.1 5
    have c6 := X2.out.bx.2.1 6
    have c7 := X2.out.bx.2.1 7
    have c8 := X2.out.bx.2.1 8
    have f0 := X2.out.bx.2.2 0
    have f1 := X2.out.bx.2.2 1
    have f2 := X2.out.bx.2.2 2
    have f3 := X2.out.bx.2.2 3
    have f4 := X2.out.bx.2.2 4
    have f5 := X2.out.bx.2.2 5
    have f6 := X2.out.bx.2.2 6
    have f7 := X2.out.bx.2.2 7
    have f8 := X2.out.bx.2.2 8
    simp [zeroS] at c0 c1 c2 c3 c4 c5 c6 c7 c8
    have XE := Lib.hid (((((((((X2.out.setA hg (i := 0) (by simp [zeroS]) (.float .f64 0)).setA hg (i := 1) (by simp [zeroS]) (.float .f64 0)).setA hg (i := 2) (by simp [zeroS]) (.float .f64 0)).setA hg (i := 3) (by simp [zeroS]) (.float .f64 0)).setA hg (i := 4) (by simp [zeroS]) (.bool false)).setA hg (i := 5) (by simp [zeroS]) (.int .i64 0)).setA hg (i := 6) (by simp [zeroS]) (.bool false)).setA hg (i := 7) (by simp [zeroS]) (.bool true)).setA hg (i := 8) (by simp [zeroS]) (.string tv))
    clear X2
    go_wp2_with (fail)
    generalize (((((((((w2.setCell { block := w.heap.size, off := 0 } (Value.float .f64 0)).setCell { block := w.heap.size, off := 1 } (Value.float .f64 0)).setCell { block := w.heap.size, off := 2 } (Value.float .f64 0)).setCell { block := w.heap.size, off := 3 } (Value.float .f64 0)).setCell { block := w.heap.size, off := 4 } (Value.bool false)).setCell { block := w.heap.size, off := 5 } (Value.int .i64 0)).setCell { block := w.heap.size, off := 6 } (Value.bool false)).setCell { block := w.heap.size, off := 7 } (Value.bool true)).setCell { block := w.heap.size, off := 8 } (Value.string tv)) = wE at *
    clear c0 c1 c2 c3 c4 c5 c6 c7 c8
    have c0 := XE.out.bx.2.1 0
    have c1 := XE.out.bx.2.1 1
    have c2 := XE.out.bx.2.1 2
    have c3 := XE.out.bx.2.1 3
    have c4 := XE.out.bx.2.1 4
    have c5 := XE.out.bx.2.1 5
    have c6 := XE.out.bx.2.1 6
    have c7 := XE.out.bx.2.1 7
    have c8 := XE.out.bx.2.1 8
    simp [zeroS] at c0 c1 c2 c3 c4 c5 c6 c7 c8
    refine bodyPost_ret (v := .agg #[.float .f64 0, .float .f64 0, .float .f64 0, .float .f64 0, .bool false, .int .i64 0, .bool false, .bool true, .string tv]) (by simp [results, Try.results19, go_sem, c0, c1, c2, c3, c4, c5, c6, c7, c8]) rfl ⟨rfl, XE.out.rd⟩
  · have e1 : spV (stV l) = .agg #[.float .f64 0, .float .f64 0, .float .f64 0, .float .f64 0, .bool false, .int .i64 0, .bool false, .bool false, .string ⟨#[]⟩] := by
      unfold stV; rw [if_neg h0, if_neg h1]; rfl
    have e2 : stR l = rdR l 1 := by unfold stR; rw [if_neg h0, if_neg h1]
    have e3 : (b || stW l) = true := by unfold stW; rw [if_neg h0, if_neg h1, Bool.or_true, Bool.or_true]
    rw [e1, e2, e3]
    clear K2 K3 e1 e2 e3
    have HK := Lib.hid (show (((rdV l 1 : Nat) : Int) == 0) = false ∧ (((rdV l 1 : Nat) : Int) == 1) = false by
      constructor <;> simp <;> omega)
    generalize (b || rdW l 1) = b1 at *
    generalize rdV l 1 = k at *
    generalize rdR l 1 = l1 at *
    clear h0 h1
    go_enter Try.func19, Try.ntmps19
    go_wp2_with (fail)
    refine (K1.out _ X0.out.rd.1).mono ?_
    rintro e w1 ⟨rfl, x⟩
    have X1 := Lib.hid (X0.out.then hg x)
    have r1 := x.1.2.1 1
    have q1 := x.1.2.2 1
    simp only [rdC, List.getElem?_toArray, List.getElem?_cons_succ, List.getElem?_cons_zero] at r1
    clear x X0
    obtain ⟨k0, k1⟩ := HK.out
    have X2 := Lib.hid (X1.out.wrong hg)
    have ngA : g ≠ w.heap.size := by omega
    have c0 := X1.out.bx.2.1 0
    have c1 := X1.out.bx.2.1 1
    have c2 := X1.out.bx.2.1 2
    have c3 := X1.out.bx.2.1 3
    have c4 := X1.out.bx.2.1 4
    have c5 := X1.out.bx.2.1 5
    have c6 := X1.out.bx.2.1 6
    have c7 := X1.out.bx.2.1 7
    have c8 := X1.out.bx.2.1 8
    have f0 := X1.out.bx.2.2 0
    have f1 := X1.out.bx.2.2 1
    have f2 := X1.out.bx.2.2 2
    have f3 := X1.out.bx.2.2 3
    have f4 := X1.out.bx.2.2 4
    have f5 := X1.out.bx.2.2 5
    have f6 := X1.out.bx.2.2 6
    have f7 := X1.out.bx.2.2 7
    have f8 := X1.out.bx.2.2 8
    simp [zeroS] at c0 c1 c2 c3 c4 c5 c6 c7 c8
    have XE := Lib.hid (((((((((X2.out.setA hg (i := 0) (by simp [zeroS]) (.float .f64 0)).setA hg (i := 1) (by simp [zeroS]) (.float .f64 0)).setA hg (i := 2) (by simp [zeroS]) (.float .f64 0)).setA hg (i := 3) (by simp [zeroS]) (.float .f64 0)).setA hg (i := 4) (by simp [zeroS]) (.bool false)).setA hg (i := 5) (by simp [zeroS]) (.int .i64 0)).setA hg (i := 6) (by simp [zeroS]) (.bool false)).setA hg (i := 7) (by simp [zeroS]) (.bool false)).setA hg (i := 8) (by simp [zeroS]) (.string ⟨#[]⟩))
    clear X2
    go_wp2_with (fail)
    generalize ((((((((((w1.setCell { block := g, off := 1 } (Value.bool true)).setCell { block := w.heap.size, off := 0 } (Value.float .f64 0)).setCell { block := w.heap.size, off := 1 } (Value.float .f64 0)).setCell { block := w.heap.size, off := 2 } (Value.float .f64 0)).setCell { block := w.heap.size, off := 3 } (Value.float .f64 0)).setCell { block := w.heap.size, off := 4 } (Value.bool false)).setCell { block := w.heap.size, off := 5 } (Value.int .i64 0)).setCell { block := w.heap.size, off := 6 } (Value.bool false)).setCell { block := w.heap.size, off := 7 } (Value.bool false)).setCell { block := w.heap.size, off := 8 } (Value.string ⟨#[]⟩)) = wE at *
    clear c0 c1 c2 c3 c4 c5 c6 c7 c8
    have c0 := XE.out.bx.2.1 0
    have c1 := XE.out.bx.2.1 1
    have c2 := XE.out.bx.2.1 2
    have c3 := XE.out.bx.2.1 3
    have c4 := XE.out.bx.2.1 4
    have c5 := XE.out.bx.2.1 5
    have c6 := XE.out.bx.2.1 6
    have c7 := XE.out.bx.2.1 7
    have c8 := XE.out.bx.2.1 8
    simp [zeroS] at c0 c1 c2 c3 c4 c5 c6 c7 c8
    refine bodyPost_ret (v := .agg #[.float .f64 0, .float .f64 0, .float .f64 0, .float .f64 0, .bool false, .int .i64 0, .bool false, .bool false, .string ⟨#[]⟩]) (by simp [results, Try.results19, go_sem, c0, c1, c2, c3, c4, c5, c6, c7, c8]) rfl ⟨rfl, XE.out.rd⟩
end Go.Proofs.Yteeiebopfjlffaa
