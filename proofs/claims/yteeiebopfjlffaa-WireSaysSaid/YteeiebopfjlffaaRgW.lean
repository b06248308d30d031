/- The document's reader: takeRaw. -/
import Derived.Test.YteeiebopfjlffaaRgX
namespace Go.Proofs.Yteeiebopfjlffaa
open Go.RowKit Ieee
set_option linter.unusedVariables false
set_option linter.unusedSimpArgs false
set_option maxRecDepth 100000
attribute [local go_sem] cell_set_ite run_store_real Near.cell Near.frozen

theorem Box.put3' {w : World} {K : Nat} {cs : Array Value} (h : Box w K cs) (hs : cs.size = 3) (x y z : Value) : Box (((w.setCell ⟨K, 0, none⟩ x).setCell ⟨K, 1, none⟩ y).setCell ⟨K, 2, none⟩ z) K #[x, y, z] := by
  match cs, hs with
  | ⟨[p, q, r]⟩, _ => exact h.put3 x y z
/-- The four blocks that takeRaw makes first: the reader, the two results, the record. -/
structure R4 (w0 : World) (l : List UInt8) (a : Nat) (ok : Bool) (cs : Array Value) (w : World) : Prop where
  b0 : Box w w0.heap.size #[.string ⟨l.toArray⟩, .int .i64 a, .bool ok]
  b1 : Box w (w0.heap.size + 1) zeroR
  b2 : Box w (w0.heap.size + 1 + 1) #[.string ⟨#[]⟩, .int .i64 0, .bool false]
  b3 : Box w (w0.heap.size + 1 + 1 + 1) cs
  bel : Below w0.heap.size w0 w
theorem R4.call {w0 w w' : World} {l : List UInt8} {a : Nat} {ok : Bool} {cs : Array Value} (h : R4 w0 l a ok cs w) (hb : Below w.heap.size w w') : R4 w0 l a ok cs w' :=
  ⟨h.b0.below hb, h.b1.below hb, h.b2.below hb, h.b3.below hb, below_call h.bel hb⟩
theorem R4.alloc {w0 w : World} {l : List UInt8} {a : Nat} {ok : Bool} {cs : Array Value} (h : R4 w0 l a ok cs w) (o : Obj) : R4 w0 l a ok cs (w.alloc o) :=
  ⟨h.b0.alloc o, h.b1.alloc o, h.b2.alloc o, h.b3.alloc o, below_alloc_on h.bel o⟩
theorem R4.set3 {w0 w : World} {l : List UInt8} {a : Nat} {ok : Bool} {cs : Array Value} (h : R4 w0 l a ok cs w) {i : Nat} (hi : i < cs.size) (v : Value) : R4 w0 l a ok (cs.setIfInBounds i v) (w.setCell ⟨w0.heap.size + 1 + 1 + 1, i, none⟩ v) :=
  ⟨h.b0.far (by simp; try omega) v, h.b1.far (by simp; try omega) v, h.b2.far (by simp; try omega) v, h.b3.set hi v, below_set_on h.bel (by simp; try omega) _⟩
theorem R4.far {w0 w : World} {l : List UInt8} {a : Nat} {ok : Bool} {cs : Array Value} (h : R4 w0 l a ok cs w) {q i : Nat} (hq : w0.heap.size + 1 + 1 + 1 < q) (v : Value) : R4 w0 l a ok cs (w.setCell ⟨q, i, none⟩ v) :=
  ⟨h.b0.far (by simp; omega) v, h.b1.far (by simp; omega) v, h.b2.far (by simp; omega) v, h.b3.far (by simp; omega) v, below_set_on h.bel (by simp; omega) _⟩
theorem R4.set0 {w0 w : World} {l : List UInt8} {a : Nat} {ok : Bool} {cs : Array Value} (h : R4 w0 l a ok cs w) (l' : List UInt8) (a' : Nat) (ok' : Bool) :
    R4 w0 l' a' ok' cs (((w.setCell ⟨w0.heap.size, 0, none⟩ (.string ⟨l'.toArray⟩)).setCell ⟨w0.heap.size, 1, none⟩ (.int .i64 a')).setCell ⟨w0.heap.size, 2, none⟩ (.bool ok')) :=
  ⟨h.b0.put3 _ _ _, ((h.b1.far (by simp; try omega) _).far (by simp; try omega) _).far (by simp; try omega) _, ((h.b2.far (by simp; try omega) _).far (by simp; try omega) _).far (by simp; try omega) _, ((h.b3.far (by simp; try omega) _).far (by simp; try omega) _).far (by simp; try omega) _,
    below_set_on (below_set_on (below_set_on h.bel (by simp) _) (by simp) _) (by simp) _⟩
theorem R4.start (w : World) (l : List UInt8) (a : Nat) (ok : Bool) (t t1 t2 t3 : TypeId) : R4 w l a ok zeroR ((((w.alloc (.cells #[.string ⟨l.toArray⟩, .int .i64 a, .bool ok] t)).alloc (.cells zeroR t1)).alloc (.cells #[.string ⟨#[]⟩, .int .i64 0, .bool false] t2)).alloc (.cells zeroR t3)) :=
  ⟨(((box_new _ _ _).alloc _).alloc _).alloc _, ((box_at (w.alloc _) _ _ (by simp)).alloc _).alloc _, (box_at ((w.alloc _).alloc _) _ _ (by simp)).alloc _, box_at (((w.alloc _).alloc _).alloc _) _ _ (by simp),
    below_alloc_on (below_alloc_on (below_alloc_on (below_alloc_on (Below.refl _ _) _) _) _) _⟩
theorem and_one' (k : Nat) (h : k < 256) : (bits .and .i64 (k : Int) 1 == 1) = (k % 2 == 1) := by
  have : ∀ k : Fin 256, (bits .and .i64 ((k.val : Nat) : Int) 1 == 1) = (k.val % 2 == 1) := by decide +kernel
  exact this ⟨k, h⟩
theorem and_two' (k : Nat) (h : k < 256) : (bits .and .i64 (k : Int) 2 == 2) = (k / 2 % 2 == 1) := by
  have : ∀ k : Fin 256, (bits .and .i64 ((k.val : Nat) : Int) 2 == 2) = (k.val / 2 % 2 == 1) := by decide +kernel
  exact this ⟨k, h⟩
theorem at_world {P : Program} {c : Code} {Q : Exit → Act → World → Prop} {a : Act} {w : World} (S : World → Prop) (h : S w) (k : ∀ W, S W → c.wp P Q a W) : c.wp P Q a w := k w h
theorem Box.put7 {w : World} {K : Nat} {cs : Array Value} (h : Box w K cs) (hs : cs.size = 7) (v0 v1 v2 v3 v4 v5 v6 : Value) :
    Box (((((((w.setCell ⟨K, 0, none⟩ v0).setCell ⟨K, 1, none⟩ v1).setCell ⟨K, 2, none⟩ v2).setCell ⟨K, 3, none⟩ v3).setCell ⟨K, 4, none⟩ v4).setCell ⟨K, 5, none⟩ v5).setCell ⟨K, 6, none⟩ v6) K #[v0, v1, v2, v3, v4, v5, v6] := by
  match cs, hs with
  | ⟨[p0, p1, p2, p3, p4, p5, p6]⟩, _ =>
    have := ((((((h.set (i := 0) (by simp) v0).set (i := 1) (by simp) v1).set (i := 2) (by simp) v2).set (i := 3) (by simp) v3).set (i := 4) (by simp) v4).set (i := 5) (by simp) v5).set (i := 6) (by simp) v6
    simpa using this
theorem ret_raw {Q : Ending → World → Prop} {a : Act} {wE : World} {A B a' : Nat} {r : Rw} {l : List UInt8} {ok' : Bool} (Z : Box wE A #[.float .f64 r.adc, .float .f64 r.tilt, .float .f64 r.bat, .float .f64 r.enc, .bool r.door, .int .i64 r.key, .bool r.wr])
    (Y : Box wE B #[.string ⟨l.toArray⟩, .int .i64 a', .bool ok']) (ht2 : (a.tmps[2]?).getD undef = .pointer (some ⟨A, 0, none⟩))
    (ht3 : (a.tmps[3]?).getD undef = .pointer (some ⟨B, 0, none⟩)) (hd : a.defers = []) (h : Q (.returned (.tuple #[rwW' r, rV l a' ok'])) wE) : bodyPost Try.prog Try.f35 Q .ret a wE := by
  have c0 := Z.2.1 0
  have c1 := Z.2.1 1
  have c2 := Z.2.1 2
  have c3 := Z.2.1 3
  have c4 := Z.2.1 4
  have c5 := Z.2.1 5
  have c6 := Z.2.1 6
  have d0 := Y.2.1 0
  have d1 := Y.2.1 1
  have d2 := Y.2.1 2
  simp only [List.getElem?_toArray, List.getElem?_cons_succ, List.getElem?_cons_zero] at c0 c1 c2 c3 c4 c5 c6 d0 d1 d2
  exact bodyPost_ret (v := .tuple #[.agg #[.float .f64 r.adc, .float .f64 r.tilt, .float .f64 r.bat, .float .f64 r.enc, .bool r.door, .int .i64 r.key, .bool r.wr], .agg #[.string ⟨l.toArray⟩, .int .i64 a', .bool ok']]) (by simp [results, Try.results35, go_sem, ht2, ht3, c0, c1, c2, c3, c4, c5, c6, d0, d1, d2]) hd h
/-- What takeRaw answers. -/
def RgW (l : List UInt8) (a : Nat) (ok : Bool) (w : World) (e : Ending) (w' : World) : Prop :=
  ∃ r a' ok', e = .returned (.tuple #[rwW' r, rV l a' ok']) ∧ ok' = (ok && !rwW (l.drop a)) ∧ a' ≤ l.length ∧ wfR r ∧ 0 ≤ r.key ∧ r.key < 256 ∧ (ok' = true → nmR r = rwV (l.drop a) ∧ l.drop a' = rwR (l.drop a)) ∧ Below w.heap.size w w'
theorem raw_math {l : List UInt8} {a a1 a2 a3 a4 a5 a6 x1 x2 x3 x4 m kk : Nat} {ok o1 o2 o3 o4 o5 o6 z : Bool}
    (E1 : o1 = (ok && !reW (l.drop a))) (G1 : o1 = true → nm x1 = reV (l.drop a) ∧ l.drop a1 = reR (l.drop a))
    (E2 : o2 = (o1 && !reW (l.drop a1))) (G2 : o2 = true → nm x2 = reV (l.drop a1) ∧ l.drop a2 = reR (l.drop a1))
    (E3 : o3 = (o2 && !reW (l.drop a2))) (G3 : o3 = true → nm x3 = reV (l.drop a2) ∧ l.drop a3 = reR (l.drop a2))
    (E4 : o4 = (o3 && !reW (l.drop a3))) (G4 : o4 = true → nm x4 = reV (l.drop a3) ∧ l.drop a4 = reR (l.drop a3))
    (E5 : o5 = (o4 && !rdW (l.drop a4) 1)) (G5 : o5 = true → m = rdV (l.drop a4) 1 ∧ l.drop a5 = rdR (l.drop a4) 1)
    (E6 : o6 = (o5 && !rdW (l.drop a5) 1)) (G6 : o6 = true → kk = rdV (l.drop a5) 1 ∧ l.drop a6 = rdR (l.drop a5) 1)
    (hz : (o6 && decide (m < 4)) = z) :
    z = (ok && !rwW (l.drop a)) ∧ (z = true → nmR ⟨x1, x2, x3, x4, m % 2 == 1, (kk : Int), m / 2 % 2 == 1⟩ = rwV (l.drop a) ∧ l.drop a6 = rwR (l.drop a)) := by
  unfold rwW
  dsimp only
  generalize l.drop a = s at *
  cases o1 with
  | false =>
    have : z = false := by rw [← hz, E6, E5, E4, E3, E2]; rfl
    subst this
    refine ⟨?_, fun h => absurd h (by simp)⟩
    cases ok
    · rfl
    · have : reW s = true := by simpa using E1.symm
      rw [this]; simp
  | true =>
  obtain ⟨rfl, w1⟩ : ok = true ∧ reW s = false := by simpa using E1.symm
  obtain ⟨h1, r1⟩ := G1 rfl
  rw [r1] at E2 G2
  cases o2 with
  | false =>
    have : z = false := by rw [← hz, E6, E5, E4, E3]; rfl
    subst this
    refine ⟨?_, fun h => absurd h (by simp)⟩
    have : reW (reR s) = true := by simpa using E2.symm
    rw [this]; simp
  | true =>
  have w2 : reW (reR s) = false := by simpa using E2.symm
  obtain ⟨h2, r2⟩ := G2 rfl
  rw [r2] at E3 G3
  cases o3 with
  | false =>
    have : z = false := by rw [← hz, E6, E5, E4]; rfl
    subst this
    refine ⟨?_, fun h => absurd h (by simp)⟩
    have : reW (reR (reR s)) = true := by simpa using E3.symm
    rw [this]; simp
  | true =>
  have w3 : reW (reR (reR s)) = false := by simpa using E3.symm
  obtain ⟨h3, r3⟩ := G3 rfl
  rw [r3] at E4 G4
  cases o4 with
  | false =>
    have : z = false := by rw [← hz, E6, E5]; rfl
    subst this
    refine ⟨?_, fun h => absurd h (by simp)⟩
    have : reW (reR (reR (reR s))) = true := by simpa using E4.symm
    rw [this]; simp
  | true =>
  have w4 : reW (reR (reR (reR s))) = false := by simpa using E4.symm
  obtain ⟨h4, r4⟩ := G4 rfl
  rw [r4] at E5 G5
  cases o5 with
  | false =>
    have : z = false := by rw [← hz, E6]; rfl
    subst this
    refine ⟨?_, fun h => absurd h (by simp)⟩
    have : rdW (reR (reR (reR (reR s)))) 1 = true := by simpa using E5.symm
    rw [this]; simp
  | true =>
  have w5 : rdW (reR (reR (reR (reR s)))) 1 = false := by simpa using E5.symm
  obtain ⟨h5, r5⟩ := G5 rfl
  rw [r5] at E6 G6
  cases o6 with
  | false =>
    have : z = false := by rw [← hz]; rfl
    subst this
    refine ⟨?_, fun h => absurd h (by simp)⟩
    have : rdW (rdR (reR (reR (reR (reR s)))) 1) 1 = true := by simpa using E6.symm
    rw [this]; simp
  | true =>
  have w6 : rdW (rdR (reR (reR (reR (reR s)))) 1) 1 = false := by simpa using E6.symm
  obtain ⟨h6, r6⟩ := G6 rfl
  refine ⟨?_, fun _ => ⟨?_, ?_⟩⟩
  · rw [← hz, w1, w2, w3, w4, w5, w6, ← h5]
    by_cases h : m < 4
    · rw [decide_eq_true h, decide_eq_false (show ¬ 3 < m by omega)]; rfl
    · rw [decide_eq_false h, decide_eq_true (show 3 < m by omega)]; rfl
  · unfold nmR rwV
    simp only
    rw [h1, h2, h3, h4, ← h5, ← h6]
  · rw [r6]; rfl
set_option maxHeartbeats 8000000 in
theorem rg_raw (l : List UInt8) (a : Nat) (ok : Bool) (ha : a ≤ l.length) (hl : l.length ≤ 100000) (w : World) :
    Calls Try.prog 35 #[rV l a ok] w (RgW l a ok w) := by
  show Calls _ _ #[.agg #[.string ⟨l.toArray⟩, .int .i64 a, .bool ok]] w _
  have X0 := Lib.hid (R4.start w l a ok 52 33 52 33)
  go_enter Try.func35, Try.ntmps35
  go_wp2_with (fail)
  refine (rg_real l a ok ha hl _).mono ?_
  rintro e w1 ⟨x1, a1, o1, rfl, e1, l1, v1, g1, b1⟩
  have Y1 := Lib.hid (X0.out.call b1)
  have E1 := Lib.hid e1
  have G1 := Lib.hid g1
  clear e1 g1
  have p0 := Y1.out.b0.2.1 0
  have p1 := Y1.out.b0.2.1 1
  have p2 := Y1.out.b0.2.1 2
  have fp0 := Y1.out.b0.2.2 0
  have fp1 := Y1.out.b0.2.2 1
  have fp2 := Y1.out.b0.2.2 2
  have cx0 := Y1.out.b3.2.1 0
  have fx0 := Y1.out.b3.2.2 0
  simp [zeroR] at p0 p1 p2 cx0
  have X1 := Lib.hid ((Y1.out.set3 (i := 0) (by simp [zeroR]) (.float .f64 x1)).set0 l a1 o1)
  have lt0 := Y1.out.b0.1
  have lt3 := Y1.out.b3.1
  clear Y1 b1
  unfold rV
  go_wp2_with (fail)
  generalize ((((w1.setCell { block := w.heap.size + 1 + 1 + 1, off := 0 } (Value.float FloatKind.f64 x1)).setCell { block := w.heap.size, off := 0 } (Value.string { data := l.toArray })).setCell { block := w.heap.size, off := 1 } (Value.int IntKind.i64 a1)).setCell { block := w.heap.size, off := 2 } (Value.bool o1)) = u1 at X1 ⊢
  clear p0 p1 p2 fp0 fp1 fp2 cx0 fx0 lt0 lt3
  refine (rg_real l a1 o1 l1 hl _).mono ?_
  rintro e w2 ⟨x2, a2, o2, rfl, e2, l2, v2, g2, b2⟩
  have Y2 := Lib.hid (X1.out.call b2)
  have E2 := Lib.hid e2
  have G2 := Lib.hid g2
  clear e2 g2
  have p0 := Y2.out.b0.2.1 0
  have p1 := Y2.out.b0.2.1 1
  have p2 := Y2.out.b0.2.1 2
  have fp0 := Y2.out.b0.2.2 0
  have fp1 := Y2.out.b0.2.2 1
  have fp2 := Y2.out.b0.2.2 2
  have cx1 := Y2.out.b3.2.1 1
  have fx1 := Y2.out.b3.2.2 1
  simp [zeroR] at p0 p1 p2 cx1
  have X2 := Lib.hid ((Y2.out.set3 (i := 1) (by simp [zeroR]) (.float .f64 x2)).set0 l a2 o2)
  have lt0 := Y2.out.b0.1
  have lt3 := Y2.out.b3.1
  clear Y2 b2
  unfold rV
  go_wp2_with (fail)
  generalize ((((w2.setCell { block := w.heap.size + 1 + 1 + 1, off := 1 } (Value.float FloatKind.f64 x2)).setCell { block := w.heap.size, off := 0 } (Value.string { data := l.toArray })).setCell { block := w.heap.size, off := 1 } (Value.int IntKind.i64 a2)).setCell { block := w.heap.size, off := 2 } (Value.bool o2)) = u2 at X2 ⊢
  clear p0 p1 p2 fp0 fp1 fp2 cx1 fx1 lt0 lt3
  refine (rg_real l a2 o2 l2 hl _).mono ?_
  rintro e w3 ⟨x3, a3, o3, rfl, e3, l3, v3, g3, b3⟩
  have Y3 := Lib.hid (X2.out.call b3)
  have E3 := Lib.hid e3
  have G3 := Lib.hid g3
  clear e3 g3
  have p0 := Y3.out.b0.2.1 0
  have p1 := Y3.out.b0.2.1 1
  have p2 := Y3.out.b0.2.1 2
  have fp0 := Y3.out.b0.2.2 0
  have fp1 := Y3.out.b0.2.2 1
  have fp2 := Y3.out.b0.2.2 2
  have cx2 := Y3.out.b3.2.1 2
  have fx2 := Y3.out.b3.2.2 2
  simp [zeroR] at p0 p1 p2 cx2
  have X3 := Lib.hid ((Y3.out.set3 (i := 2) (by simp [zeroR]) (.float .f64 x3)).set0 l a3 o3)
  have lt0 := Y3.out.b0.1
  have lt3 := Y3.out.b3.1
  clear Y3 b3
  unfold rV
  go_wp2_with (fail)
  generalize ((((w3.setCell { block := w.heap.size + 1 + 1 + 1, off := 2 } (Value.float FloatKind.f64 x3)).setCell { block := w.heap.size, off := 0 } (Value.string { data := l.toArray })).setCell { block := w.heap.size, off := 1 } (Value.int IntKind.i64 a3)).setCell { block := w.heap.size, off := 2 } (Value.bool o3)) = u3 at X3 ⊢
  clear p0 p1 p2 fp0 fp1 fp2 cx2 fx2 lt0 lt3
  refine (rg_real l a3 o3 l3 hl _).mono ?_
  rintro e w4 ⟨x4, a4, o4, rfl, e4, l4, v4, g4, b4⟩
  have Y4 := Lib.hid (X3.out.call b4)
  have E4 := Lib.hid e4
  have G4 := Lib.hid g4
  clear e4 g4
  have p0 := Y4.out.b0.2.1 0
  have p1 := Y4.out.b0.2.1 1
  have p2 := Y4.out.b0.2.1 2
  have fp0 := Y4.out.b0.2.2 0
  have fp1 := Y4.out.b0.2.2 1
  have fp2 := Y4.out.b0.2.2 2
  have cx3 := Y4.out.b3.2.1 3
  have fx3 := Y4.out.b3.2.2 3
  simp [zeroR] at p0 p1 p2 cx3
  have X4 := Lib.hid ((Y4.out.set3 (i := 3) (by simp [zeroR]) (.float .f64 x4)).set0 l a4 o4)
  have lt0 := Y4.out.b0.1
  have lt3 := Y4.out.b3.1
  clear Y4 b4
  unfold rV
  go_wp2_with (fail)
  generalize ((((w4.setCell { block := w.heap.size + 1 + 1 + 1, off := 3 } (Value.float FloatKind.f64 x4)).setCell { block := w.heap.size, off := 0 } (Value.string { data := l.toArray })).setCell { block := w.heap.size, off := 1 } (Value.int IntKind.i64 a4)).setCell { block := w.heap.size, off := 2 } (Value.bool o4)) = u4 at X4 ⊢
  clear p0 p1 p2 fp0 fp1 fp2 cx3 fx3 lt0 lt3
  obtain ⟨m, a5, o5, k5, e5, l5, v5, g5, z5⟩ := rg_num l a4 1 o4 (by omega) (by omega) l4 hl
  have E5 := Lib.hid e5
  have G5 := Lib.hid g5
  clear e5 g5 z5
  refine (k5 _).mono ?_
  rintro e w5 ⟨rfl, b5⟩
  have X5 := Lib.hid ((X4.out.call b5).alloc (.cells #[.string ⟨l.toArray⟩, .int .i64 a5, .bool o5] 52))
  clear b5 X4 k5
  unfold rV
  go_wp2_with (fail)
  generalize hu5 : w5.alloc (.cells #[.string ⟨l.toArray⟩, .int .i64 a5, .bool o5] 52) = u5 at X5 ⊢
  clear hu5
  obtain ⟨kk, a6, o6, k6, e6, l6, v6, g6, z6⟩ := rg_num l a5 1 o5 (by omega) (by omega) l5 hl
  have E6 := Lib.hid e6
  have G6 := Lib.hid g6
  clear e6 g6 z6
  refine (k6 _).mono ?_
  rintro e w6 ⟨rfl, b6⟩
  have Y6 := Lib.hid (X5.out.call b6)
  have hw6 := Y6.out.b3.1
  clear b6 X5 k6
  rw [show (256 : Nat) ^ 1 = 256 by decide] at v5 v6
  have hm1 := and_one' m v5
  have hm2 := and_two' m v5
  have HM1 := Lib.hid hm1
  have HM2 := Lib.hid hm2
  have hh : (o6 = false ∧ (o6 && decide (m < 4)) = false) ∨ (o6 = true ∧ decide ((m : Int) < 4) = true ∧ (o6 && decide (m < 4)) = true) ∨ (o6 = true ∧ decide ((m : Int) < 4) = false ∧ (o6 && decide (m < 4)) = false) := by
    cases o6
    · exact .inl ⟨rfl, rfl⟩
    · by_cases h : m < 4
      · exact .inr (.inl ⟨rfl, decide_eq_true (by omega), by rw [decide_eq_true h]; rfl⟩)
      · exact .inr (.inr ⟨rfl, decide_eq_false (by omega), by rw [decide_eq_false h]; rfl⟩)
  obtain ⟨z, hz⟩ : ∃ z, (o6 && decide (m < 4)) = z := ⟨_, rfl⟩
  rw [hz] at hh
  have HZ := Lib.hid hz
  have HH := Lib.hid hh
  clear hz hh hm1 hm2
  unfold rV
  have cx0 := Y6.out.b3.2.1 0
  have cx1 := Y6.out.b3.2.1 1
  have cx2 := Y6.out.b3.2.1 2
  have cx3 := Y6.out.b3.2.1 3
  have cx4 := Y6.out.b3.2.1 4
  have cx5 := Y6.out.b3.2.1 5
  have cx6 := Y6.out.b3.2.1 6
  have fx4 := Y6.out.b3.2.2 4
  have fx5 := Y6.out.b3.2.2 5
  have fx6 := Y6.out.b3.2.2 6
  have cr0 := Y6.out.b1.2.1 0
  have cr1 := Y6.out.b1.2.1 1
  have cr2 := Y6.out.b1.2.1 2
  have cr3 := Y6.out.b1.2.1 3
  have cr4 := Y6.out.b1.2.1 4
  have cr5 := Y6.out.b1.2.1 5
  have cr6 := Y6.out.b1.2.1 6
  have fr0 := Y6.out.b1.2.2 0
  have fr1 := Y6.out.b1.2.2 1
  have fr2 := Y6.out.b1.2.2 2
  have fr3 := Y6.out.b1.2.2 3
  have fr4 := Y6.out.b1.2.2 4
  have fr5 := Y6.out.b1.2.2 5
  have fr6 := Y6.out.b1.2.2 6
  have cs0 := Y6.out.b2.2.1 0
  have cs1 := Y6.out.b2.2.1 1
  have cs2 := Y6.out.b2.2.1 2
  have fs0 := Y6.out.b2.2.2 0
  have fs1 := Y6.out.b2.2.2 1
  have fs2 := Y6.out.b2.2.2 2
  simp [zeroR] at cx0 cr0 cx1 cr1 cx2 cr2 cx3 cr3 cx4 cr4 cx5 cr5 cx6 cr6 cs0 cs1 cs2
  have lb0 := Y6.out.b0.1
  have lb1 := Y6.out.b1.1
  have lb2 := Y6.out.b2.1
  rcases HH.out with ⟨rfl, rfl⟩ | ⟨rfl, hm4, rfl⟩ | ⟨rfl, hm4, rfl⟩
  · go_wp2_with (fail)
    refine at_world (fun W => R4 w l a4 o4 #[.float .f64 x1, .float .f64 x2, .float .f64 x3, .float .f64 x4, .bool (bits .and .i64 (m : Int) 1 == 1), .int .i64 kk, .bool (bits .and .i64 (m : Int) 2 == 2)] W ∧ Box W w6.heap.size #[.string ⟨l.toArray⟩, .int .i64 a6, .bool false]) ⟨?_, box_at _ _ _ (by simp [size_setCell])⟩ ?_
    · have := (((Y6.out.set3 (i := 4) (by simp [zeroR]) (.bool (bits .and .i64 (m : Int) 1 == 1))).set3 (i := 6) (by simp [zeroR]) (.bool (bits .and .i64 (m : Int) 2 == 2))).set3 (i := 5) (by simp [zeroR]) (.int .i64 kk)).alloc (.cells #[.string ⟨l.toArray⟩, .int .i64 a6, .bool false] 52)
      simpa [zeroR] using this
    · rintro W ⟨S1, S2⟩
      have S1 := Lib.hid S1
      have S2 := Lib.hid S2
      rw [HM1.out, HM2.out] at S1
      clear cx0 cx1 cx2 cx3 cx4 cx5 cx6 fx4 fx5 fx6 cr0 cr1 cr2 cr3 cr4 cr5 cr6 fr0 fr1 fr2 fr3 fr4 fr5 fr6 cs0 cs1 cs2 fs0 fs1 fs2 lb0 lb1 lb2
      have c0 := S1.out.b3.2.1 0
      have c1 := S1.out.b3.2.1 1
      have c2 := S1.out.b3.2.1 2
      have c3 := S1.out.b3.2.1 3
      have c4 := S1.out.b3.2.1 4
      have c5 := S1.out.b3.2.1 5
      have c6 := S1.out.b3.2.1 6
      have d0 := S2.out.2.1 0
      have d1 := S2.out.2.1 1
      have d2 := S2.out.2.1 2
      have r0 := S1.out.b1.2.1 0
      have r1 := S1.out.b1.2.1 1
      have r2 := S1.out.b1.2.1 2
      have r3 := S1.out.b1.2.1 3
      have r4 := S1.out.b1.2.1 4
      have r5 := S1.out.b1.2.1 5
      have r6 := S1.out.b1.2.1 6
      have t0 := S1.out.b2.2.1 0
      have t1 := S1.out.b2.2.1 1
      have t2 := S1.out.b2.2.1 2
      have fr0 := S1.out.b1.2.2 0
      have fr1 := S1.out.b1.2.2 1
      have fr2 := S1.out.b1.2.2 2
      have fr3 := S1.out.b1.2.2 3
      have fr4 := S1.out.b1.2.2 4
      have fr5 := S1.out.b1.2.2 5
      have fr6 := S1.out.b1.2.2 6
      have ft0 := S1.out.b2.2.2 0
      have ft1 := S1.out.b2.2.2 1
      have ft2 := S1.out.b2.2.2 2
      simp only [zeroR, List.getElem?_toArray, List.getElem?_cons_succ, List.getElem?_cons_zero] at c0 c1 c2 c3 c4 c5 c6 d0 d1 d2 r0 r1 r2 r3 r4 r5 r6 t0 t1 t2
      go_region
      all_goals go_wp2_with (fail)
      have bel := S1.out.bel
      have MM := raw_math E1.out G1.out E2.out G2.out E3.out G3.out E4.out G4.out E5.out G5.out E6.out G6.out HZ.out
      refine ret_raw (A := w.heap.size + 1) (B := w.heap.size + 1 + 1) (r := ⟨x1, x2, x3, x4, m % 2 == 1, (kk : Int), m / 2 % 2 == 1⟩) (a' := a6) (ok' := false) (l := l)
        ((((S1.out.b1.put7 rfl _ _ _ _ _ _ _).far (by simp) _).far (by simp) _).far (by simp) _).drew
        ((((((((S1.out.b2.far (by simp) _).far (by simp) _).far (by simp) _).far (by simp) _).far (by simp) _).far (by simp) _).far (by simp) _).put3' rfl _ _ _).drew
        rfl rfl rfl ⟨_, a6, false, rfl, MM.1, l6, ⟨v1, v2, v3, v4⟩, by show (0 : Int) ≤ (kk : Int); omega, by show (kk : Int) < 256; omega, MM.2, by (repeat (first | (with_reducible exact Below.refl _ _) | (with_reducible assumption) | (with_reducible refine Near.up _ ?_) | (with_reducible refine Below.drew ?_) | (with_reducible refine below_alloc_on ?_ _) | (with_reducible refine below_set_on ?_ (by first | (simp; done) | (simp; omega) | omega) _)))⟩
  · go_wp2_with (fail)
    refine at_world (fun W => R4 w l a4 o4 #[.float .f64 x1, .float .f64 x2, .float .f64 x3, .float .f64 x4, .bool (bits .and .i64 (m : Int) 1 == 1), .int .i64 kk, .bool (bits .and .i64 (m : Int) 2 == 2)] W ∧ Box W w6.heap.size #[.string ⟨l.toArray⟩, .int .i64 a6, .bool true]) ⟨?_, box_at _ _ _ (by simp [size_setCell])⟩ ?_
    · have := (((Y6.out.set3 (i := 4) (by simp [zeroR]) (.bool (bits .and .i64 (m : Int) 1 == 1))).set3 (i := 6) (by simp [zeroR]) (.bool (bits .and .i64 (m : Int) 2 == 2))).set3 (i := 5) (by simp [zeroR]) (.int .i64 kk)).alloc (.cells #[.string ⟨l.toArray⟩, .int .i64 a6, .bool true] 52)
      simpa [zeroR] using this
    · rintro W ⟨S1, S2⟩
      have S1 := Lib.hid S1
      have S2 := Lib.hid S2
      rw [HM1.out, HM2.out] at S1
      clear cx0 cx1 cx2 cx3 cx4 cx5 cx6 fx4 fx5 fx6 cr0 cr1 cr2 cr3 cr4 cr5 cr6 fr0 fr1 fr2 fr3 fr4 fr5 fr6 cs0 cs1 cs2 fs0 fs1 fs2 lb0 lb1 lb2
      have c0 := S1.out.b3.2.1 0
      have c1 := S1.out.b3.2.1 1
      have c2 := S1.out.b3.2.1 2
      have c3 := S1.out.b3.2.1 3
      have c4 := S1.out.b3.2.1 4
      have c5 := S1.out.b3.2.1 5
      have c6 := S1.out.b3.2.1 6
      have d0 := S2.out.2.1 0
      have d1 := S2.out.2.1 1
      have d2 := S2.out.2.1 2
      have r0 := S1.out.b1.2.1 0
      have r1 := S1.out.b1.2.1 1
      have r2 := S1.out.b1.2.1 2
      have r3 := S1.out.b1.2.1 3
      have r4 := S1.out.b1.2.1 4
      have r5 := S1.out.b1.2.1 5
      have r6 := S1.out.b1.2.1 6
      have t0 := S1.out.b2.2.1 0
      have t1 := S1.out.b2.2.1 1
      have t2 := S1.out.b2.2.1 2
      have fr0 := S1.out.b1.2.2 0
      have fr1 := S1.out.b1.2.2 1
      have fr2 := S1.out.b1.2.2 2
      have fr3 := S1.out.b1.2.2 3
      have fr4 := S1.out.b1.2.2 4
      have fr5 := S1.out.b1.2.2 5
      have fr6 := S1.out.b1.2.2 6
      have ft0 := S1.out.b2.2.2 0
      have ft1 := S1.out.b2.2.2 1
      have ft2 := S1.out.b2.2.2 2
      simp only [zeroR, List.getElem?_toArray, List.getElem?_cons_succ, List.getElem?_cons_zero] at c0 c1 c2 c3 c4 c5 c6 d0 d1 d2 r0 r1 r2 r3 r4 r5 r6 t0 t1 t2
      go_region
      all_goals go_wp2_with (fail)
      have bel := S1.out.bel
      have MM := raw_math E1.out G1.out E2.out G2.out E3.out G3.out E4.out G4.out E5.out G5.out E6.out (fun _ => G6.out trivial) HZ.out
      refine ret_raw (A := w.heap.size + 1) (B := w.heap.size + 1 + 1) (r := ⟨x1, x2, x3, x4, m % 2 == 1, (kk : Int), m / 2 % 2 == 1⟩) (a' := a6) (ok' := true) (l := l)
        ((((S1.out.b1.put7 rfl _ _ _ _ _ _ _).far (by simp) _).far (by simp) _).far (by simp) _).drew
        ((((((((S1.out.b2.far (by simp) _).far (by simp) _).far (by simp) _).far (by simp) _).far (by simp) _).far (by simp) _).far (by simp) _).put3' rfl _ _ _).drew
        rfl rfl rfl ⟨_, a6, true, rfl, MM.1, l6, ⟨v1, v2, v3, v4⟩, by show (0 : Int) ≤ (kk : Int); omega, by show (kk : Int) < 256; omega, MM.2, by (repeat (first | (with_reducible exact Below.refl _ _) | (with_reducible assumption) | (with_reducible refine Near.up _ ?_) | (with_reducible refine Below.drew ?_) | (with_reducible refine below_alloc_on ?_ _) | (with_reducible refine below_set_on ?_ (by first | (simp; done) | (simp; omega) | omega) _)))⟩
  · go_wp2_with (fail)
    refine at_world (fun W => R4 w l a4 o4 #[.float .f64 x1, .float .f64 x2, .float .f64 x3, .float .f64 x4, .bool (bits .and .i64 (m : Int) 1 == 1), .int .i64 kk, .bool (bits .and .i64 (m : Int) 2 == 2)] W ∧ Box W w6.heap.size #[.string ⟨l.toArray⟩, .int .i64 a6, .bool false]) ⟨?_, box_at _ _ _ (by simp [size_setCell])⟩ ?_
    · have := (((Y6.out.set3 (i := 4) (by simp [zeroR]) (.bool (bits .and .i64 (m : Int) 1 == 1))).set3 (i := 6) (by simp [zeroR]) (.bool (bits .and .i64 (m : Int) 2 == 2))).set3 (i := 5) (by simp [zeroR]) (.int .i64 kk)).alloc (.cells #[.string ⟨l.toArray⟩, .int .i64 a6, .bool false] 52)
      simpa [zeroR] using this
    · rintro W ⟨S1, S2⟩
      have S1 := Lib.hid S1
      have S2 := Lib.hid S2
      rw [HM1.out, HM2.out] at S1
      clear cx0 cx1 cx2 cx3 cx4 cx5 cx6 fx4 fx5 fx6 cr0 cr1 cr2 cr3 cr4 cr5 cr6 fr0 fr1 fr2 fr3 fr4 fr5 fr6 cs0 cs1 cs2 fs0 fs1 fs2 lb0 lb1 lb2
      have c0 := S1.out.b3.2.1 0
      have c1 := S1.out.b3.2.1 1
      have c2 := S1.out.b3.2.1 2
      have c3 := S1.out.b3.2.1 3
      have c4 := S1.out.b3.2.1 4
      have c5 := S1.out.b3.2.1 5
      have c6 := S1.out.b3.2.1 6
      have d0 := S2.out.2.1 0
      have d1 := S2.out.2.1 1
      have d2 := S2.out.2.1 2
      have r0 := S1.out.b1.2.1 0
      have r1 := S1.out.b1.2.1 1
      have r2 := S1.out.b1.2.1 2
      have r3 := S1.out.b1.2.1 3
      have r4 := S1.out.b1.2.1 4
      have r5 := S1.out.b1.2.1 5
      have r6 := S1.out.b1.2.1 6
      have t0 := S1.out.b2.2.1 0
      have t1 := S1.out.b2.2.1 1
      have t2 := S1.out.b2.2.1 2
      have fr0 := S1.out.b1.2.2 0
      have fr1 := S1.out.b1.2.2 1
      have fr2 := S1.out.b1.2.2 2
      have fr3 := S1.out.b1.2.2 3
      have fr4 := S1.out.b1.2.2 4
      have fr5 := S1.out.b1.2.2 5
      have fr6 := S1.out.b1.2.2 6
      have ft0 := S1.out.b2.2.2 0
      have ft1 := S1.out.b2.2.2 1
      have ft2 := S1.out.b2.2.2 2
      simp only [zeroR, List.getElem?_toArray, List.getElem?_cons_succ, List.getElem?_cons_zero] at c0 c1 c2 c3 c4 c5 c6 d0 d1 d2 r0 r1 r2 r3 r4 r5 r6 t0 t1 t2
      go_region
      all_goals go_wp2_with (fail)
      have bel := S1.out.bel
      have MM := raw_math E1.out G1.out E2.out G2.out E3.out G3.out E4.out G4.out E5.out G5.out E6.out (fun _ => G6.out trivial) HZ.out
      refine ret_raw (A := w.heap.size + 1) (B := w.heap.size + 1 + 1) (r := ⟨x1, x2, x3, x4, m % 2 == 1, (kk : Int), m / 2 % 2 == 1⟩) (a' := a6) (ok' := false) (l := l)
        ((((S1.out.b1.put7 rfl _ _ _ _ _ _ _).far (by simp) _).far (by simp) _).far (by simp) _).drew
        ((((((((S1.out.b2.far (by simp) _).far (by simp) _).far (by simp) _).far (by simp) _).far (by simp) _).far (by simp) _).far (by simp) _).put3' rfl _ _ _).drew
        rfl rfl rfl ⟨_, a6, false, rfl, MM.1, l6, ⟨v1, v2, v3, v4⟩, by show (0 : Int) ≤ (kk : Int); omega, by show (kk : Int) < 256; omega, MM.2, by (repeat (first | (with_reducible exact Below.refl _ _) | (with_reducible assumption) | (with_reducible refine Near.up _ ?_) | (with_reducible refine Below.drew ?_) | (with_reducible refine below_alloc_on ?_ _) | (with_reducible refine below_set_on ?_ (by first | (simp; done) | (simp; omega) | omega) _)))⟩
end Go.Proofs.Yteeiebopfjlffaa
