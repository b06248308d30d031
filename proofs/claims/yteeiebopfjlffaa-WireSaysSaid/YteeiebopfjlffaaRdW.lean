/- A reader of bytes: contract of raw. -/
import Derived.Test.YteeiebopfjlffaaRdX
import Derived.Deep.AppendLies
namespace Go.Proofs.Yteeiebopfjlffaa
open Go.RowKit Ieee
set_option linter.unusedVariables false
set_option linter.unusedSimpArgs false
set_option maxRecDepth 100000
attribute [local go_sem] cell_set_ite

theorem run_store_real (P : Program) (w : World) (a : Addr) (m : Mode) (k : FloatKind) (b : Nat) : (store a (.float k b) m).run P w = stored P w a (.float k b) m := run_store P w a _ m rfl
theorem gb_new {w w1 : World} {r : Option Nat} (h : w.grownBy w1 r) {q : Nat} (hq : w.heap.size ≤ q) (i : Nat) (v : Value) : w.grownBy (w1.setCell ⟨q, i, none⟩ v) r :=
  ⟨h.os, h.tape, h.output, by rw [size_setCell]; exact h.size, fun k hk hr => (Below.heap_setCell _ _ _ _ (by simp; omega)).trans (h.block k hk hr)⟩
theorem gb_alloc {w w1 : World} {r : Option Nat} (h : w.grownBy w1 r) (o : Obj) : w.grownBy (w1.alloc o) r := h.trans (World.grownBy_alloc _ _ _)
theorem Box.kept {w w' : World} {g r : Nat} {cs : Array Value} (h : Box w g cs) (hg : w.grownBy w' (some r)) (hne : g ≠ r) : Box w' g cs := by
  have hb := hg.block g h.1 (by simpa using hne)
  exact ⟨Nat.lt_of_lt_of_le h.1 hg.size, fun i => (World.cell?_of_block (a := ⟨g, i, none⟩) hb).trans (h.2.1 i), fun i => (World.frozen?_of_block (a := ⟨g, i, none⟩) hb).trans (h.2.2 i)⟩
/-- A block that a call makes, a reader beside it. -/
structure Rwb (g : Nat) (w : World) (l : List UInt8) (b : Bool) (A : Nat) (cs : Array Value) (w' : World) : Prop where
  rd : Rdr g w l b w'
  bx : Box w' A cs
  old : w.heap.size ≤ A
theorem Rwb.then {g A : Nat} {w w1 w2 : World} {l l2 : List UInt8} {b b2 : Bool} {cs : Array Value} (h : Rwb g w l b A cs w1) (hg : g < w.heap.size) (k : Rdr g w1 l2 b2 w2) : Rwb g w l2 b2 A cs w2 :=
  ⟨h.rd.then k, h.bx.kept k.2 (by have := h.old; omega), h.old⟩
structure Rw2 (g : Nat) (w : World) (l : List UInt8) (b : Bool) (A : Nat) (cs : Array Value) (B : Nat) (ds : Array Value) (w' : World) : Prop where
  rd : Rdr g w l b w'
  ba : Box w' A cs
  bb : Box w' B ds
  oa : w.heap.size ≤ A
  ob : w.heap.size ≤ B
  ne : A ≠ B
theorem Rw2.then {g A B : Nat} {w w1 w2 : World} {l l2 : List UInt8} {b b2 : Bool} {cs ds : Array Value} (h : Rw2 g w l b A cs B ds w1) (hg : g < w.heap.size) (k : Rdr g w1 l2 b2 w2) : Rw2 g w l2 b2 A cs B ds w2 :=
  ⟨h.rd.then k, h.ba.kept k.2 (by have := h.oa; omega), h.bb.kept k.2 (by have := h.ob; omega), h.oa, h.ob, h.ne⟩
theorem Rw2.wrong {g A B : Nat} {w w1 : World} {l : List UInt8} {b : Bool} {cs ds : Array Value} (h : Rw2 g w l b A cs B ds w1) (hg : g < w.heap.size) : Rw2 g w l true A cs B ds (w1.setCell ⟨g, 1, none⟩ (.bool true)) :=
  ⟨rd_wrong h.rd, h.ba.far (by have := h.oa; simp; omega) _, h.bb.far (by have := h.ob; simp; omega) _, h.oa, h.ob, h.ne⟩
theorem Rw2.setB {g A B : Nat} {w w1 : World} {l : List UInt8} {b : Bool} {cs ds : Array Value} (h : Rw2 g w l b A cs B ds w1) (hg : g < w.heap.size) {i : Nat} (hi : i < ds.size) (v : Value) : Rw2 g w l b A cs B (ds.setIfInBounds i v) (w1.setCell ⟨B, i, none⟩ v) :=
  ⟨⟨h.rd.1.far (by have := h.ob; simp; omega) _, gb_new h.rd.2 h.ob i v⟩, h.ba.far (by have := h.ne; simp; omega) _, h.bb.set hi v, h.oa, h.ob, h.ne⟩
theorem Rw2.setA {g A B : Nat} {w w1 : World} {l : List UInt8} {b : Bool} {cs ds : Array Value} (h : Rw2 g w l b A cs B ds w1) (hg : g < w.heap.size) {i : Nat} (hi : i < cs.size) (v : Value) : Rw2 g w l b A (cs.setIfInBounds i v) B ds (w1.setCell ⟨A, i, none⟩ v) :=
  ⟨⟨h.rd.1.far (by have := h.oa; simp; omega) _, gb_new h.rd.2 h.oa i v⟩, h.ba.set hi v, h.bb.far (by have := h.ne; simp; omega) _, h.oa, h.ob, h.ne⟩
def zeroR : Array Value := #[.float .f64 0, .float .f64 0, .float .f64 0, .float .f64 0, .bool false, .int .i64 0, .bool false]
theorem and_one (k : Nat) (h : k < 256) : (bits .and .i64 (k : Int) 1 != 0) = (k % 2 == 1) := by
  have : ∀ k : Fin 256, (bits .and .i64 ((k.val : Nat) : Int) 1 != 0) = (k.val % 2 == 1) := by decide +kernel
  exact this ⟨k, h⟩
theorem and_two (k : Nat) (h : k < 256) : (bits .and .i64 (k : Int) 2 != 0) = (k / 2 % 2 == 1) := by
  have : ∀ k : Fin 256, (bits .and .i64 ((k.val : Nat) : Int) 2 != 0) = (k.val / 2 % 2 == 1) := by decide +kernel
  exact this ⟨k, h⟩
attribute [local go_sem] run_store_real
set_option maxHeartbeats 4000000 in
theorem rd_raw (g : Nat) (l : List UInt8) (b : Bool) (hl : l.length ≤ 100000) (w : World) (hB : Box w g (rdC l b)) :
    Calls Try.prog 32 #[.pointer (some ⟨g, 0, none⟩)] w fun e w' => e = .returned (rwW' (rwV l)) ∧ Rdr g w (rwR l) (b || rwW l) w' := by
  have reLen : ∀ l, (reR l).length ≤ l.length := fun l => by
    unfold reR
    split
    · have := rdR_len l 1; have := rdR_len (rdR l 1) 4; have := rdR_len (rdR (rdR l 1) 4) 4; omega
    · exact rdR_len l 1
  have n1 := reLen l
  have n2 := reLen (reR l)
  have n3 := reLen (reR (reR l))
  have n4 := reLen (reR (reR (reR l)))
  have n5 := rdR_len (reR (reR (reR (reR l)))) 1
  have K1 := Lib.hid fun w' x => rd_real g l b hl w' x
  have K2 := Lib.hid fun w' x => rd_real g (reR l) (b || reW l) (by omega) w' x
  have K3 := Lib.hid fun w' x => rd_real g (reR (reR l)) ((b || reW l) || reW (reR l)) (by omega) w' x
  have K4 := Lib.hid fun w' x => rd_real g (reR (reR (reR l))) (((b || reW l) || reW (reR l)) || reW (reR (reR l))) (by omega) w' x
  have K5 := Lib.hid fun w' x => rd_number g 1 (reR (reR (reR (reR l)))) ((((b || reW l) || reW (reR l)) || reW (reR (reR l))) || reW (reR (reR (reR l)))) (by omega) (by omega) (by omega) w' x
  have K6 := Lib.hid fun b6 w' x => rd_number g 1 (rdR (reR (reR (reR (reR l)))) 1) b6 (by omega) (by omega) (by omega) w' x
  have eW : (b || rwW l) = ((((((((b || reW l) || reW (reR l)) || reW (reR (reR l))) || reW (reR (reR (reR l)))) || rdW (reR (reR (reR (reR l)))) 1) || decide (3 < rdV (reR (reR (reR (reR l)))) 1))) || rdW (rdR (reR (reR (reR (reR l)))) 1) 1) := by
    unfold rwW; simp only [Bool.or_assoc]
  have eR : rwR l = rdR (rdR (reR (reR (reR (reR l)))) 1) 1 := rfl
  have t1 := rdV_lt (reR (reR (reR (reR l)))) 1
  rw [show 256 ^ 1 = 256 by decide] at t1
  have o1 := and_one _ t1
  have o2 := and_two _ t1
  rw [eW, eR]
  unfold rwV rwW'
  simp only
  rw [← o1, ← o2]
  clear eW eR o1 o2 n1 n2 n3 n4 n5 reLen
  generalize rdW (rdR (reR (reR (reR (reR l)))) 1) 1 = q7 at *
  generalize rdV (rdR (reR (reR (reR (reR l)))) 1) 1 = kk at *
  generalize rdR (rdR (reR (reR (reR (reR l)))) 1) 1 = l6 at *
  generalize rdR (reR (reR (reR (reR l)))) 1 = l5 at *
  generalize rdV (reR (reR (reR (reR l)))) 1 = tt at *
  generalize (((((b || reW l) || reW (reR l)) || reW (reR (reR l))) || reW (reR (reR (reR l)))) || rdW (reR (reR (reR (reR l)))) 1) = b5 at *
  generalize ((((b || reW l) || reW (reR l)) || reW (reR (reR l))) || reW (reR (reR (reR l)))) = b4 at *
  generalize (((b || reW l) || reW (reR l)) || reW (reR (reR l))) = b3 at *
  generalize ((b || reW l) || reW (reR l)) = b2 at *
  generalize (b || reW l) = b1 at *
  generalize reV (reR (reR (reR l))) = a4 at *
  generalize reV (reR (reR l)) = a3 at *
  generalize reV (reR l) = a2 at *
  generalize reV l = a1 at *
  generalize reR (reR (reR (reR l))) = l4 at *
  generalize reR (reR (reR l)) = l3 at *
  generalize reR (reR l) = l2 at *
  generalize reR l = l1 at *
  have hh : (3 < tt ∧ (b5 || decide (3 < tt)) = true) ∨ (¬ 3 < tt ∧ (b5 || decide (3 < tt)) = b5) := by
    by_cases h : 3 < tt
    · exact .inl ⟨h, by rw [decide_eq_true h, Bool.or_true]⟩
    · exact .inr ⟨h, by rw [decide_eq_false h, Bool.or_false]⟩
  generalize (b5 || decide (3 < tt)) = b6 at *
  have HH := Lib.hid hh
  clear hh
  have hg := hB.1
  have X0 : Rwb g w l b w.heap.size zeroR (w.alloc (.cells zeroR 33)) := ⟨⟨hB.alloc _, World.grownBy_alloc _ _ _⟩, box_new _ _ _, Nat.le_refl _⟩
  have X0 := Lib.hid X0
  clear hB
  go_enter Try.func32, Try.ntmps32
  go_wp2_with (fail)
  refine (K1.out _ X0.out.rd.1).mono ?_
  rintro e w1 ⟨rfl, x⟩
  have X1 := Lib.hid (X0.out.then hg x)
  clear x X0
  go_wp2_with (fail)
  refine (K2.out _ X1.out.rd.1).mono ?_
  rintro e w2 ⟨rfl, x⟩
  have X2 := Lib.hid (X1.out.then hg x)
  clear x X1
  go_wp2_with (fail)
  refine (K3.out _ X2.out.rd.1).mono ?_
  rintro e w3 ⟨rfl, x⟩
  have X3 := Lib.hid (X2.out.then hg x)
  clear x X2
  go_wp2_with (fail)
  refine (K4.out _ X3.out.rd.1).mono ?_
  rintro e w4 ⟨rfl, x⟩
  have X4 := Lib.hid (X3.out.then hg x)
  clear x X3
  go_wp2_with (fail)
  have Y4 := Lib.hid (show Rw2 g w l4 b4 w.heap.size zeroR w4.heap.size #[.float .f64 a1, .float .f64 a2, .float .f64 a3, .float .f64 a4, .bool false, .int .i64 0, .bool false] (w4.alloc (.cells #[.float .f64 a1, .float .f64 a2, .float .f64 a3, .float .f64 a4, .bool false, .int .i64 0, .bool false] 33)) from
    ⟨⟨X4.out.rd.1.alloc _, gb_alloc X4.out.rd.2 _⟩, X4.out.bx.alloc _, box_new _ _ _, Nat.le_refl _, X4.out.rd.2.size, by have := X4.out.bx.1; omega⟩)
  clear X4
  refine (K5.out _ Y4.out.rd.1).mono ?_
  rintro e w5 ⟨rfl, x⟩
  have Y5 := Lib.hid (Y4.out.then hg x)
  generalize hBn : w4.heap.size = B at *
  have c1 := x.1.2.1 1
  have f1 := x.1.2.2 1
  simp only [rdC, List.getElem?_toArray, List.getElem?_cons_succ, List.getElem?_cons_zero] at c1
  have d4 := Y5.out.bb.2.1 4
  have d5 := Y5.out.bb.2.1 5
  have d6 := Y5.out.bb.2.1 6
  have e4 := Y5.out.bb.2.2 4
  have e5 := Y5.out.bb.2.2 5
  have e6 := Y5.out.bb.2.2 6
  simp only [List.getElem?_toArray, List.getElem?_cons_succ, List.getElem?_cons_zero] at d4 d5 d6
  have ngB : g ≠ B := by have := Y5.out.ob; omega
  clear x Y4 hBn
  generalize h11 : (bits .and .i64 (tt : Int) 1 != 0) = o1 at *
  generalize h22 : (bits .and .i64 (tt : Int) 2 != 0) = o2 at *
  rcases HH.out with ⟨h3, rfl⟩ | ⟨h3, rfl⟩
  · go_wp2_with (fail)
    have Y6 := Lib.hid (((Y5.out.wrong hg).setB hg (i := 4) (by simp) (.bool o1)).setB hg (i := 6) (by simp) (.bool o2))
    refine (K6.out _ _ Y6.out.rd.1).mono ?_
    rintro e w7 ⟨rfl, x⟩
    have Y7 := Lib.hid (Y6.out.then hg x)
    clear x Y6 Y5 d4 d5 d6 e4 e5 e6 c1 f1
    have d0 := Y7.out.bb.2.1 0
    have d1 := Y7.out.bb.2.1 1
    have d2 := Y7.out.bb.2.1 2
    have d3 := Y7.out.bb.2.1 3
    have d4 := Y7.out.bb.2.1 4
    have d5 := Y7.out.bb.2.1 5
    have d6 := Y7.out.bb.2.1 6
    have e5 := Y7.out.bb.2.2 5
    have c0 := Y7.out.ba.2.1 0
    have c1 := Y7.out.ba.2.1 1
    have c2 := Y7.out.ba.2.1 2
    have c3 := Y7.out.ba.2.1 3
    have c4 := Y7.out.ba.2.1 4
    have c5 := Y7.out.ba.2.1 5
    have c6 := Y7.out.ba.2.1 6
    have f0 := Y7.out.ba.2.2 0
    have f1 := Y7.out.ba.2.2 1
    have f2 := Y7.out.ba.2.2 2
    have f3 := Y7.out.ba.2.2 3
    have f4 := Y7.out.ba.2.2 4
    have f5 := Y7.out.ba.2.2 5
    have f6 := Y7.out.ba.2.2 6
    have nAB : w.heap.size ≠ B := Y7.out.ne
    simp [zeroR] at d0 d1 d2 d3 d4 d5 d6 c0 c1 c2 c3 c4 c5 c6
    have Y8 := Lib.hid ((((((((Y7.out.setB hg (i := 5) (by simp) (.int .i64 kk)).setA hg (i := 0) (by simp [zeroR]) (.float .f64 a1)).setA hg (i := 1) (by simp [zeroR]) (.float .f64 a2)).setA hg (i := 2) (by simp [zeroR]) (.float .f64 a3)).setA hg (i := 3) (by simp [zeroR]) (.float .f64 a4)).setA hg (i := 4) (by simp [zeroR]) (.bool o1)).setA hg (i := 5) (by simp [zeroR]) (.int .i64 kk)).setA hg (i := 6) (by simp [zeroR]) (.bool o2))
    clear Y7
    go_wp2_with (fail)
    generalize ((((((((w7.setCell { block := B, off := 5 } (Value.int IntKind.i64 kk)).setCell { block := w.heap.size, off := 0 } (Value.float FloatKind.f64 a1)).setCell { block := w.heap.size, off := 1 } (Value.float FloatKind.f64 a2)).setCell { block := w.heap.size, off := 2 } (Value.float FloatKind.f64 a3)).setCell { block := w.heap.size, off := 3 } (Value.float FloatKind.f64 a4)).setCell { block := w.heap.size, off := 4 } (Value.bool o1)).setCell { block := w.heap.size, off := 5 } (Value.int IntKind.i64 kk)).setCell { block := w.heap.size, off := 6 } (Value.bool o2)) = w8 at *
    clear c0 c1 c2 c3 c4 c5 c6 d0 d1 d2 d3 d4 d5 d6
    have c0 := Y8.out.ba.2.1 0
    have c1 := Y8.out.ba.2.1 1
    have c2 := Y8.out.ba.2.1 2
    have c3 := Y8.out.ba.2.1 3
    have c4 := Y8.out.ba.2.1 4
    have c5 := Y8.out.ba.2.1 5
    have c6 := Y8.out.ba.2.1 6
    simp [zeroR] at c0 c1 c2 c3 c4 c5 c6
    refine bodyPost_ret (v := .agg #[.float .f64 a1, .float .f64 a2, .float .f64 a3, .float .f64 a4, .bool o1, .int .i64 kk, .bool o2]) (by simp [results, Try.results32, go_sem, c0, c1, c2, c3, c4, c5, c6]) rfl ⟨by rw [h11, h22], Y8.out.rd⟩
  · go_wp2_with (fail)
    have Y6 := Lib.hid ((Y5.out.setB hg (i := 4) (by simp) (.bool o1)).setB hg (i := 6) (by simp) (.bool o2))
    refine (K6.out _ _ Y6.out.rd.1).mono ?_
    rintro e w7 ⟨rfl, x⟩
    have Y7 := Lib.hid (Y6.out.then hg x)
    clear x Y6 Y5 d4 d5 d6 e4 e5 e6 c1 f1
    have d0 := Y7.out.bb.2.1 0
    have d1 := Y7.out.bb.2.1 1
    have d2 := Y7.out.bb.2.1 2
    have d3 := Y7.out.bb.2.1 3
    have d4 := Y7.out.bb.2.1 4
    have d5 := Y7.out.bb.2.1 5
    have d6 := Y7.out.bb.2.1 6
    have e5 := Y7.out.bb.2.2 5
    have c0 := Y7.out.ba.2.1 0
    have c1 := Y7.out.ba.2.1 1
    have c2 := Y7.out.ba.2.1 2
    have c3 := Y7.out.ba.2.1 3
    have c4 := Y7.out.ba.2.1 4
    have c5 := Y7.out.ba.2.1 5
    have c6 := Y7.out.ba.2.1 6
    have f0 := Y7.out.ba.2.2 0
    have f1 := Y7.out.ba.2.2 1
    have f2 := Y7.out.ba.2.2 2
    have f3 := Y7.out.ba.2.2 3
    have f4 := Y7.out.ba.2.2 4
    have f5 := Y7.out.ba.2.2 5
    have f6 := Y7.out.ba.2.2 6
    have nAB : w.heap.size ≠ B := Y7.out.ne
    simp [zeroR] at d0 d1 d2 d3 d4 d5 d6 c0 c1 c2 c3 c4 c5 c6
    have Y8 := Lib.hid ((((((((Y7.out.setB hg (i := 5) (by simp) (.int .i64 kk)).setA hg (i := 0) (by simp [zeroR]) (.float .f64 a1)).setA hg (i := 1) (by simp [zeroR]) (.float .f64 a2)).setA hg (i := 2) (by simp [zeroR]) (.float .f64 a3)).setA hg (i := 3) (by simp [zeroR]) (.float .f64 a4)).setA hg (i := 4) (by simp [zeroR]) (.bool o1)).setA hg (i := 5) (by simp [zeroR]) (.int .i64 kk)).setA hg (i := 6) (by simp [zeroR]) (.bool o2))
    clear Y7
    go_wp2_with (fail)
    generalize ((((((((w7.setCell { block := B, off := 5 } (Value.int IntKind.i64 kk)).setCell { block := w.heap.size, off := 0 } (Value.float FloatKind.f64 a1)).setCell { block := w.heap.size, off := 1 } (Value.float FloatKind.f64 a2)).setCell { block := w.heap.size, off := 2 } (Value.float FloatKind.f64 a3)).setCell { block := w.heap.size, off := 3 } (Value.float FloatKind.f64 a4)).setCell { block := w.heap.size, off := 4 } (Value.bool o1)).setCell { block := w.heap.size, off := 5 } (Value.int IntKind.i64 kk)).setCell { block := w.heap.size, off := 6 } (Value.bool o2)) = w8 at *
    clear c0 c1 c2 c3 c4 c5 c6 d0 d1 d2 d3 d4 d5 d6
    have c0 := Y8.out.ba.2.1 0
    have c1 := Y8.out.ba.2.1 1
    have c2 := Y8.out.ba.2.1 2
    have c3 := Y8.out.ba.2.1 3
    have c4 := Y8.out.ba.2.1 4
    have c5 := Y8.out.ba.2.1 5
    have c6 := Y8.out.ba.2.1 6
    simp [zeroR] at c0 c1 c2 c3 c4 c5 c6
    refine bodyPost_ret (v := .agg #[.float .f64 a1, .float .f64 a2, .float .f64 a3, .float .f64 a4, .bool o1, .int .i64 kk, .bool o2]) (by simp [results, Try.results32, go_sem, c0, c1, c2, c3, c4, c5, c6]) rfl ⟨by rw [h11, h22], Y8.out.rd⟩
end Go.Proofs.Yteeiebopfjlffaa
