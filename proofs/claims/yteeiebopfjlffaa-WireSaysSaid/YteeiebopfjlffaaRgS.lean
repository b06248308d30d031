/- The document's reader: takeStep. -/
import Derived.Test.YteeiebopfjlffaaRgW
namespace Go.Proofs.Yteeiebopfjlffaa
open Go.RowKit Ieee
set_option linter.unusedVariables false
set_option linter.unusedSimpArgs false
set_option maxRecDepth 100000
attribute [local go_sem] cell_set_ite run_store_real Near.cell Near.frozen

structure R3 (w0 : World) (l : List UInt8) (a : Nat) (ok : Bool) (w : World) : Prop where
  b0 : Box w w0.heap.size #[.string ⟨l.toArray⟩, .int .i64 a, .bool ok]
  b1 : Box w (w0.heap.size + 1) zeroS
  b2 : Box w (w0.heap.size + 1 + 1) #[.string ⟨#[]⟩, .int .i64 0, .bool false]
  bel : Below w0.heap.size w0 w
theorem R3.call {w0 w w' : World} {l : List UInt8} {a : Nat} {ok : Bool} (h : R3 w0 l a ok w) (hb : Below w.heap.size w w') : R3 w0 l a ok w' :=
  ⟨h.b0.below hb, h.b1.below hb, h.b2.below hb, below_call h.bel hb⟩
theorem R3.alloc {w0 w : World} {l : List UInt8} {a : Nat} {ok : Bool} (h : R3 w0 l a ok w) (o : Obj) : R3 w0 l a ok (w.alloc o) :=
  ⟨h.b0.alloc o, h.b1.alloc o, h.b2.alloc o, below_alloc_on h.bel o⟩
theorem R3.start (w : World) (l : List UInt8) (a : Nat) (ok : Bool) (t t1 t2 : TypeId) : R3 w l a ok (((w.alloc (.cells #[.string ⟨l.toArray⟩, .int .i64 a, .bool ok] t)).alloc (.cells zeroS t1)).alloc (.cells #[.string ⟨#[]⟩, .int .i64 0, .bool false] t2)) :=
  ⟨((box_new _ _ _).alloc _).alloc _, (box_at (w.alloc _) _ _ (by simp)).alloc _, box_at ((w.alloc _).alloc _) _ _ (by simp),
    below_alloc_on (below_alloc_on (below_alloc_on (Below.refl _ _) _) _) _⟩
theorem Box.put9 {w : World} {K : Nat} {cs : Array Value} (h : Box w K cs) (hs : cs.size = 9) (v0 v1 v2 v3 v4 v5 v6 v7 v8 : Value) :
    Box (((((((((w.setCell ⟨K, 0, none⟩ v0).setCell ⟨K, 1, none⟩ v1).setCell ⟨K, 2, none⟩ v2).setCell ⟨K, 3, none⟩ v3).setCell ⟨K, 4, none⟩ v4).setCell ⟨K, 5, none⟩ v5).setCell ⟨K, 6, none⟩ v6).setCell ⟨K, 7, none⟩ v7).setCell ⟨K, 8, none⟩ v8) K #[v0, v1, v2, v3, v4, v5, v6, v7, v8] := by
  match cs, hs with
  | ⟨[p0, p1, p2, p3, p4, p5, p6, p7, p8]⟩, _ =>
    have := ((((((((h.set (i := 0) (by simp) v0).set (i := 1) (by simp) v1).set (i := 2) (by simp) v2).set (i := 3) (by simp) v3).set (i := 4) (by simp) v4).set (i := 5) (by simp) v5).set (i := 6) (by simp) v6).set (i := 7) (by simp) v7).set (i := 8) (by simp) v8
    simpa using this
theorem ret_step {Q : Ending → World → Prop} {a : Act} {wE : World} {A B a' : Nat} {x : Sp} {l : List UInt8} {ok' : Bool} (Z : Box wE A (stC x).toArray)
    (Y : Box wE B #[.string ⟨l.toArray⟩, .int .i64 a', .bool ok']) (ht2 : (a.tmps[2]?).getD undef = .pointer (some ⟨A, 0, none⟩))
    (ht3 : (a.tmps[3]?).getD undef = .pointer (some ⟨B, 0, none⟩)) (hd : a.defers = []) (h : Q (.returned (.tuple #[spV x, rV l a' ok'])) wE) : bodyPost Try.prog Try.f21 Q .ret a wE := by
  have c0 := Z.2.1 0
  have c1 := Z.2.1 1
  have c2 := Z.2.1 2
  have c3 := Z.2.1 3
  have c4 := Z.2.1 4
  have c5 := Z.2.1 5
  have c6 := Z.2.1 6
  have c7 := Z.2.1 7
  have c8 := Z.2.1 8
  have d0 := Y.2.1 0
  have d1 := Y.2.1 1
  have d2 := Y.2.1 2
  simp only [stC, List.getElem?_toArray, List.getElem?_cons_succ, List.getElem?_cons_zero] at c0 c1 c2 c3 c4 c5 c6 c7 c8 d0 d1 d2
  exact bodyPost_ret (v := .tuple #[spV x, .agg #[.string ⟨l.toArray⟩, .int .i64 a', .bool ok']]) (by unfold spV; simp [results, Try.results21, go_sem, ht2, ht3, c0, c1, c2, c3, c4, c5, c6, c7, c8, d0, d1, d2]) hd h
theorem mid_bytes (l : List UInt8) (a n : Nat) (h : a + n ≤ l.length) : (ByteArray.mk l.toArray).extract a (a + n) = ⟨((l.drop a).take n).toArray⟩ := by
  apply ByteArray.ext
  rw [ByteArray.data_extract]
  simp
theorem step_zero {l : List UInt8} {a a1 a2 : Nat} {ok o1 o2 : Bool} {x : Rw} (E1 : o1 = (ok && !rdW (l.drop a) 1)) (G1 : o1 = true → (0 : Nat) = rdV (l.drop a) 1 ∧ l.drop a1 = rdR (l.drop a) 1)
    (E2 : o2 = (o1 && !rwW (l.drop a1))) (G2 : o2 = true → nmR x = rwV (l.drop a1) ∧ l.drop a2 = rwR (l.drop a1)) :
    o2 = (ok && !stW (l.drop a)) ∧ (o2 = true → nrm ⟨x, false, ⟨#[]⟩⟩ = stV (l.drop a) ∧ l.drop a2 = stR (l.drop a)) := by
  generalize l.drop a = s at *
  cases o1 with
  | false =>
    have : o2 = false := by rw [E2]; rfl
    subst this
    refine ⟨?_, fun h => absurd h (by simp)⟩
    cases ok
    · rfl
    · have : rdW s 1 = true := by simpa using E1.symm
      unfold stW; rw [this]; simp
  | true =>
    obtain ⟨rfl, w1⟩ : ok = true ∧ rdW s 1 = false := by simpa using E1.symm
    obtain ⟨h0, r1⟩ := G1 rfl
    rw [r1] at E2 G2
    refine ⟨?_, fun h => ?_⟩
    · rw [E2]; unfold stW; rw [w1, if_pos h0.symm]; rfl
    · obtain ⟨h1, h2⟩ := G2 h
      unfold stV stR
      rw [if_pos h0.symm, if_pos h0.symm, nrm_raw, h1, h2]
      exact ⟨rfl, rfl⟩
theorem step_bad {s : List UInt8} {k : Nat} (h0 : k ≠ 0) (hk : k = rdV s 1) (h : k ≠ 1 ∨ tnW (rdR s 1) = true) : stW s = true := by
  unfold stW
  rw [← hk, if_neg h0]
  by_cases h1 : k = 1
  · rcases h with h | h
    · exact absurd h1 h
    · rw [if_pos h1, h, Bool.or_true]
  · rw [if_neg h1, Bool.or_true]
theorem step_cut {s t u v : List UInt8} {n : Nat} (hk : 1 = rdV s 1) (ht : t = rdR s 1) (hw : rdW s 1 = false) (hw2 : rdW t 1 = false) (hn : n = rdV t 1) (hu : u = rdR t 1) (h64 : n ≤ 64) (hfit : n ≤ u.length) (hv : v = u.drop n) :
    (true && !stW s) = true ∧ nrm ⟨noR, true, ⟨(u.take n).toArray⟩⟩ = stV s ∧ v = stR s := by
  have hB : tnB t = false := by unfold tnB; rw [← hn, ← hu, decide_eq_false (by omega), decide_eq_false (by omega)]; rfl
  unfold stW stV stR
  rw [← hk, ← ht, hw]
  simp only [Nat.one_ne_zero, if_false, if_true]
  unfold tnW tnV tnR
  rw [hB, hw2, ← hn, ← hu]
  exact ⟨rfl, rfl, hv⟩
/-- What takeStep answers. -/
def RgS (l : List UInt8) (a : Nat) (ok : Bool) (w : World) (e : Ending) (w' : World) : Prop :=
  ∃ x a' ok', e = .returned (.tuple #[spV x, rV l a' ok']) ∧ ok' = (ok && !stW (l.drop a)) ∧ a' ≤ l.length ∧ wfX x ∧ (ok' = true → nrm x = stV (l.drop a) ∧ l.drop a' = stR (l.drop a)) ∧ Below w.heap.size w w'
set_option maxHeartbeats 8000000 in
theorem rg_step (l : List UInt8) (a : Nat) (ok : Bool) (ha : a ≤ l.length) (hl : l.length ≤ 100000) (w : World) :
    Calls Try.prog 21 #[rV l a ok] w (RgS l a ok w) := by
  show Calls _ _ #[.agg #[.string ⟨l.toArray⟩, .int .i64 a, .bool ok]] w _
  have ML : 64 ≤ maxLen := by decide
  have X0 := Lib.hid (R3.start w l a ok 52 35 52)
  obtain ⟨k, a1, o1, k1, e1, l1, v1, g1, z1⟩ := rg_num l a 1 ok (by omega) (by omega) ha hl
  have E1 := Lib.hid e1
  have G1 := Lib.hid g1
  have Z1 := Lib.hid z1
  have K1 := Lib.hid k1
  clear e1 g1 z1 k1 v1
  unfold rV at K1
  by_cases hk0 : k = 0
  · subst hk0
    go_enter Try.func21, Try.ntmps21
    go_wp2_with (fail)
    refine (K1.out _).mono ?_
    rintro e w1 ⟨rfl, b1⟩
    have X1 := Lib.hid ((X0.out.call b1).alloc (.cells #[.string ⟨l.toArray⟩, .int .i64 a1, .bool o1] 52))
    clear b1 X0
    go_wp2_with (fail)
    refine (rg_raw l a1 o1 l1 hl _).mono ?_
    rintro e w2 ⟨r, a2, o2, rfl, e2, l2, hw, hq0, hq1, g2, b2⟩
    have X2 := Lib.hid (X1.out.call b2)
    have E2 := Lib.hid e2
    have G2 := Lib.hid g2
    have hlt2 := X2.out.b2.1
    clear e2 g2 X1 b2
    obtain ⟨adc, tilt, bat, enc, door, key, wr⟩ := r
    unfold rwW' rV
    go_wp2_with (fail)
    refine at_world (fun W => R3 w l a ok W ∧ Box W w2.heap.size #[.float .f64 adc, .float .f64 tilt, .float .f64 bat, .float .f64 enc, .bool door, .int .i64 key, .bool wr] ∧ Box W (w2.heap.size + 1) #[.string ⟨l.toArray⟩, .int .i64 a2, .bool o2]) ⟨(X2.out.alloc _).alloc _, (box_new _ _ _).alloc _, box_at (w2.alloc _) _ _ (by simp)⟩ ?_
    · rintro W ⟨S1, S2, S3⟩
      have S1 := Lib.hid S1
      clear X2
      have c0 := S2.2.1 0
      have c1 := S2.2.1 1
      have c2 := S2.2.1 2
      have c3 := S2.2.1 3
      have c4 := S2.2.1 4
      have c5 := S2.2.1 5
      have c6 := S2.2.1 6
      have d0 := S3.2.1 0
      have d1 := S3.2.1 1
      have d2 := S3.2.1 2
      simp only [List.getElem?_toArray, List.getElem?_cons_succ, List.getElem?_cons_zero] at c0 c1 c2 c3 c4 c5 c6 d0 d1 d2
      clear S2 S3
      have r0 := S1.out.b1.2.1 0
      have fr0 := S1.out.b1.2.2 0
      have r1 := S1.out.b1.2.1 1
      have fr1 := S1.out.b1.2.2 1
      have r2 := S1.out.b1.2.1 2
      have fr2 := S1.out.b1.2.2 2
      have r3 := S1.out.b1.2.1 3
      have fr3 := S1.out.b1.2.2 3
      have r4 := S1.out.b1.2.1 4
      have fr4 := S1.out.b1.2.2 4
      have r5 := S1.out.b1.2.1 5
      have fr5 := S1.out.b1.2.2 5
      have r6 := S1.out.b1.2.1 6
      have fr6 := S1.out.b1.2.2 6
      have r7 := S1.out.b1.2.1 7
      have fr7 := S1.out.b1.2.2 7
      have r8 := S1.out.b1.2.1 8
      have fr8 := S1.out.b1.2.2 8
      have t0 := S1.out.b2.2.1 0
      have ft0 := S1.out.b2.2.2 0
      have t1 := S1.out.b2.2.1 1
      have ft1 := S1.out.b2.2.2 1
      have t2 := S1.out.b2.2.1 2
      have ft2 := S1.out.b2.2.2 2
      simp only [zeroS, List.getElem?_toArray, List.getElem?_cons_succ, List.getElem?_cons_zero] at r0 r1 r2 r3 r4 r5 r6 r7 r8 t0 t1 t2
      go_region
      all_goals go_wp2_with (fail)
      have bel := S1.out.bel
      refine ret_step (A := w.heap.size + 1) (B := w.heap.size + 1 + 1) (x := ⟨⟨adc, tilt, bat, enc, door, key, wr⟩, false, ⟨#[]⟩⟩) (a' := a2) (ok' := o2) (l := l)
        ((((S1.out.b1.put9 rfl _ _ _ _ _ _ _ _ _).far (by simp) _).far (by simp) _).far (by simp) _).drew
        ((((((((((S1.out.b2.far (by simp) _).far (by simp) _).far (by simp) _).far (by simp) _).far (by simp) _).far (by simp) _).far (by simp) _).far (by simp) _).far (by simp) _).put3' rfl _ _ _).drew
        rfl rfl rfl ⟨_, a2, o2, rfl, (step_zero E1.out G1.out E2.out G2.out (x := ⟨adc, tilt, bat, enc, door, key, wr⟩)).1, l2, ⟨hw, by show _ ≤ key; have : (0 : Int) ≤ key := hq0; omega, by show key ≤ _; have : key < 256 := hq1; omega, Nat.zero_le _⟩, (step_zero E1.out G1.out E2.out G2.out (x := ⟨adc, tilt, bat, enc, door, key, wr⟩)).2, by (repeat (first | (with_reducible exact Below.refl _ _) | (with_reducible assumption) | (with_reducible refine Near.up _ ?_) | (with_reducible refine Below.drew ?_) | (with_reducible refine below_alloc_on ?_ _) | (with_reducible refine below_set_on ?_ (by first | (simp; done) | (simp; omega) | omega) _)))⟩
  · have ho1 : o1 = true := by
      cases h : o1
      · exact absurd (Z1.out h) hk0
      · rfl
    subst ho1
    obtain ⟨hok, hw1⟩ : ok = true ∧ rdW (l.drop a) 1 = false := by have := E1.out; simpa using this.symm
    subst hok
    obtain ⟨hkv, hr1⟩ := G1.out rfl
    obtain ⟨n, a2, o2, k2, e2, l2, v2, g2, z2⟩ := rg_num l a1 1 true (by omega) (by omega) l1 hl
    have E2 := Lib.hid e2
    have G2 := Lib.hid g2
    have K2 := Lib.hid k2
    have HK := Lib.hid hkv
    have HR := Lib.hid hr1
    have HW := Lib.hid hw1
    rw [show (256 : Nat) ^ 1 = 256 by decide] at v2
    clear e2 g2 k2 z2 hkv hr1 hw1 E1 G1 Z1
    unfold rV at K2
    have hk00 : (((k : Nat) : Int) == 0) = false := by simp; omega
    by_cases hk1 : k = 1
    · subst hk1
      cases o2 with
      | false =>
        have HB := Lib.hid (step_bad (s := l.drop a) hk0 HK.out (.inr (by
          have : rdW (l.drop a1) 1 = true := by have := E2.out; simpa using this.symm
          unfold tnW; rw [← HR.out, this]; rfl)))
        go_enter Try.func21, Try.ntmps21
        go_wp2_with (fail)
        refine (K1.out _).mono ?_
        rintro e w1 ⟨rfl, b1⟩
        have X1 := Lib.hid ((X0.out.call b1).alloc (.cells #[.string ⟨l.toArray⟩, .int .i64 a1, .bool true] 52))
        clear b1 X0
        go_wp2_with (fail)
        refine (K2.out _).mono ?_
        rintro e w2 ⟨rfl, b2⟩
        have X2 := Lib.hid (X1.out.call b2)
        have hlt2 := X2.out.b2.1
        clear X1 b2
        go_wp2_with (fail)
        refine at_world (fun W => R3 w l a true W ∧ Box W w2.heap.size #[.string ⟨l.toArray⟩, .int .i64 a2, .bool false]) ⟨X2.out.alloc _, box_new _ _ _⟩ ?_
        rintro W ⟨S1, S3⟩
        have S1 := Lib.hid S1
        clear X2
        have c0 := S1.out.b0.2.1 0
        have c1 := S1.out.b0.2.1 1
        have c2 := S1.out.b0.2.1 2
        simp only [List.getElem?_toArray, List.getElem?_cons_succ, List.getElem?_cons_zero] at c0 c1 c2
        clear S3
        have r0 := S1.out.b1.2.1 0
        have fr0 := S1.out.b1.2.2 0
        have r1 := S1.out.b1.2.1 1
        have fr1 := S1.out.b1.2.2 1
        have r2 := S1.out.b1.2.1 2
        have fr2 := S1.out.b1.2.2 2
        have r3 := S1.out.b1.2.1 3
        have fr3 := S1.out.b1.2.2 3
        have r4 := S1.out.b1.2.1 4
        have fr4 := S1.out.b1.2.2 4
        have r5 := S1.out.b1.2.1 5
        have fr5 := S1.out.b1.2.2 5
        have r6 := S1.out.b1.2.1 6
        have fr6 := S1.out.b1.2.2 6
        have r7 := S1.out.b1.2.1 7
        have fr7 := S1.out.b1.2.2 7
        have r8 := S1.out.b1.2.1 8
        have fr8 := S1.out.b1.2.2 8
        have t0 := S1.out.b2.2.1 0
        have ft0 := S1.out.b2.2.2 0
        have t1 := S1.out.b2.2.1 1
        have ft1 := S1.out.b2.2.2 1
        have t2 := S1.out.b2.2.1 2
        have ft2 := S1.out.b2.2.2 2
        simp only [zeroS, List.getElem?_toArray, List.getElem?_cons_succ, List.getElem?_cons_zero] at r0 r1 r2 r3 r4 r5 r6 r7 r8 t0 t1 t2
        go_region
        all_goals go_wp2_with (fail)
        have bel := S1.out.bel
        refine ret_step (A := w.heap.size + 1) (B := w.heap.size + 1 + 1) (x := ⟨noR, false, ⟨#[]⟩⟩) (a' := a) (ok' := false) (l := l)
          ((((S1.out.b1.put9 rfl _ _ _ _ _ _ _ _ _).far (by simp) _).far (by simp) _).far (by simp) _).drew
          ((((((((((S1.out.b2.far (by simp) _).far (by simp) _).far (by simp) _).far (by simp) _).far (by simp) _).far (by simp) _).far (by simp) _).far (by simp) _).far (by simp) _).put3' rfl _ _ _).drew
          rfl rfl rfl ⟨_, a, false, rfl, by rw [HB.out]; rfl, ha, ⟨wf_noR, by show _ ≤ (0 : Int); omega, by show (0 : Int) ≤ _; omega, Nat.zero_le _⟩, fun h => absurd h (by simp), by (repeat (first | (with_reducible exact Below.refl _ _) | (with_reducible assumption) | (with_reducible refine Near.up _ ?_) | (with_reducible refine Below.drew ?_) | (with_reducible refine below_alloc_on ?_ _) | (with_reducible refine below_set_on ?_ (by first | (simp; done) | (simp; omega) | omega) _)))⟩
      | true =>
        have hw2 : rdW (l.drop a1) 1 = false := by have := E2.out; simpa using this.symm
        obtain ⟨hnv, hr2⟩ := G2.out rfl
        have hdl : (l.drop a2).length = l.length - a2 := List.length_drop
        have hNV := Lib.hid hnv
        have hR2 := Lib.hid hr2
        have HDL := Lib.hid hdl
        have HW2 := Lib.hid hw2
        clear hnv hr2 hdl hw2
        by_cases h64 : 64 < n
        · have HB := Lib.hid (step_bad (s := l.drop a) hk0 HK.out (.inr (by
            unfold tnW tnB; rw [← HR.out, ← hNV.out, decide_eq_true h64]; simp)))
          go_enter Try.func21, Try.ntmps21
          go_wp2_with (fail)
          refine (K1.out _).mono ?_
          rintro e w1 ⟨rfl, b1⟩
          have X1 := Lib.hid ((X0.out.call b1).alloc (.cells #[.string ⟨l.toArray⟩, .int .i64 a1, .bool true] 52))
          clear b1 X0
          go_wp2_with (fail)
          refine (K2.out _).mono ?_
          rintro e w2 ⟨rfl, b2⟩
          have X2 := Lib.hid (X1.out.call b2)
          have hlt2 := X2.out.b2.1
          clear X1 b2
          go_wp2_with (fail)
          refine at_world (fun W => R3 w l a true W ∧ Box W w2.heap.size #[.string ⟨l.toArray⟩, .int .i64 a2, .bool true]) ⟨X2.out.alloc _, box_new _ _ _⟩ ?_
          rintro W ⟨S1, S3⟩
          have S1 := Lib.hid S1
          clear X2
          have c0 := S1.out.b0.2.1 0
          have c1 := S1.out.b0.2.1 1
          have c2 := S1.out.b0.2.1 2
          simp only [List.getElem?_toArray, List.getElem?_cons_succ, List.getElem?_cons_zero] at c0 c1 c2
          clear S3
          have r0 := S1.out.b1.2.1 0
          have fr0 := S1.out.b1.2.2 0
          have r1 := S1.out.b1.2.1 1
          have fr1 := S1.out.b1.2.2 1
          have r2 := S1.out.b1.2.1 2
          have fr2 := S1.out.b1.2.2 2
          have r3 := S1.out.b1.2.1 3
          have fr3 := S1.out.b1.2.2 3
          have r4 := S1.out.b1.2.1 4
          have fr4 := S1.out.b1.2.2 4
          have r5 := S1.out.b1.2.1 5
          have fr5 := S1.out.b1.2.2 5
          have r6 := S1.out.b1.2.1 6
          have fr6 := S1.out.b1.2.2 6
          have r7 := S1.out.b1.2.1 7
          have fr7 := S1.out.b1.2.2 7
          have r8 := S1.out.b1.2.1 8
          have fr8 := S1.out.b1.2.2 8
          have t0 := S1.out.b2.2.1 0
          have ft0 := S1.out.b2.2.2 0
          have t1 := S1.out.b2.2.1 1
          have ft1 := S1.out.b2.2.2 1
          have t2 := S1.out.b2.2.1 2
          have ft2 := S1.out.b2.2.2 2
          simp only [zeroS, List.getElem?_toArray, List.getElem?_cons_succ, List.getElem?_cons_zero] at r0 r1 r2 r3 r4 r5 r6 r7 r8 t0 t1 t2
          go_region
          all_goals go_wp2_with (fail)
          have bel := S1.out.bel
          refine ret_step (A := w.heap.size + 1) (B := w.heap.size + 1 + 1) (x := ⟨noR, false, ⟨#[]⟩⟩) (a' := a) (ok' := false) (l := l)
            ((((S1.out.b1.put9 rfl _ _ _ _ _ _ _ _ _).far (by simp) _).far (by simp) _).far (by simp) _).drew
            ((((((((((S1.out.b2.far (by simp) _).far (by simp) _).far (by simp) _).far (by simp) _).far (by simp) _).far (by simp) _).far (by simp) _).far (by simp) _).far (by simp) _).put3' rfl _ _ _).drew
            rfl rfl rfl ⟨_, a, false, rfl, by rw [HB.out]; rfl, ha, ⟨wf_noR, by show _ ≤ (0 : Int); omega, by show (0 : Int) ≤ _; omega, Nat.zero_le _⟩, fun h => absurd h (by simp), by (repeat (first | (with_reducible exact Below.refl _ _) | (with_reducible assumption) | (with_reducible refine Near.up _ ?_) | (with_reducible refine Below.drew ?_) | (with_reducible refine below_alloc_on ?_ _) | (with_reducible refine below_set_on ?_ (by first | (simp; done) | (simp; omega) | omega) _)))⟩
        · by_cases hfit : a2 + n ≤ l.length
          · have HB := Lib.hid (step_cut (s := l.drop a) (t := l.drop a1) (u := l.drop a2) (n := n) (v := l.drop (a2 + n)) HK.out HR.out HW.out HW2.out hNV.out hR2.out (by omega) (by rw [HDL.out]; omega) (by rw [List.drop_drop]))
            have hsz : (ByteArray.mk ((l.drop a2).take n).toArray).size ≤ 64 := by
              show (((l.drop a2).take n).toArray).size ≤ 64
              rw [List.size_toArray, List.length_take]; omega
            go_enter Try.func21, Try.ntmps21
            go_wp2_with (fail)
            refine (K1.out _).mono ?_
            rintro e w1 ⟨rfl, b1⟩
            have X1 := Lib.hid ((X0.out.call b1).alloc (.cells #[.string ⟨l.toArray⟩, .int .i64 a1, .bool true] 52))
            clear b1 X0
            go_wp2_with (fail)
            refine (K2.out _).mono ?_
            rintro e w2 ⟨rfl, b2⟩
            have X2 := Lib.hid (X1.out.call b2)
            have hlt2 := X2.out.b2.1
            clear X1 b2
            go_wp2_with (fail)
            refine at_world (fun W => R3 w l a true W ∧ Box W w2.heap.size #[.string ⟨l.toArray⟩, .int .i64 a2, .bool true]) ⟨X2.out.alloc _, box_new _ _ _⟩ ?_
            rintro W ⟨S1, S3⟩
            have S1 := Lib.hid S1
            clear X2
            have d0 := S3.2.1 0
            have d1 := S3.2.1 1
            have d2 := S3.2.1 2
            simp only [List.getElem?_toArray, List.getElem?_cons_succ, List.getElem?_cons_zero] at d0 d1 d2
            clear S3
            have r0 := S1.out.b1.2.1 0
            have fr0 := S1.out.b1.2.2 0
            have r1 := S1.out.b1.2.1 1
            have fr1 := S1.out.b1.2.2 1
            have r2 := S1.out.b1.2.1 2
            have fr2 := S1.out.b1.2.2 2
            have r3 := S1.out.b1.2.1 3
            have fr3 := S1.out.b1.2.2 3
            have r4 := S1.out.b1.2.1 4
            have fr4 := S1.out.b1.2.2 4
            have r5 := S1.out.b1.2.1 5
            have fr5 := S1.out.b1.2.2 5
            have r6 := S1.out.b1.2.1 6
            have fr6 := S1.out.b1.2.2 6
            have r7 := S1.out.b1.2.1 7
            have fr7 := S1.out.b1.2.2 7
            have r8 := S1.out.b1.2.1 8
            have fr8 := S1.out.b1.2.2 8
            have t0 := S1.out.b2.2.1 0
            have ft0 := S1.out.b2.2.2 0
            have t1 := S1.out.b2.2.1 1
            have ft1 := S1.out.b2.2.2 1
            have t2 := S1.out.b2.2.1 2
            have ft2 := S1.out.b2.2.2 2
            simp only [zeroS, List.getElem?_toArray, List.getElem?_cons_succ, List.getElem?_cons_zero] at r0 r1 r2 r3 r4 r5 r6 r7 r8 t0 t1 t2
            have HM := Lib.hid (mid_bytes l a2 n hfit)
            have hls : (ByteArray.mk l.toArray).size = l.length := List.size_toArray
            go_region
            all_goals go_wp2_with (fail)
            rw [HM.out, show ((a2 : Int) + (n : Int)) = ((a2 + n : Nat) : Int) from (Int.natCast_add _ _).symm]
            have bel := S1.out.bel
            refine ret_step (A := w.heap.size + 1) (B := w.heap.size + 1 + 1) (x := ⟨noR, true, ⟨((l.drop a2).take n).toArray⟩⟩) (a' := a2 + n) (ok' := true) (l := l)
              ((((S1.out.b1.put9 rfl _ _ _ _ _ _ _ _ _).far (by simp) _).far (by simp) _).far (by simp) _).drew
              ((((((((((S1.out.b2.far (by simp) _).far (by simp) _).far (by simp) _).far (by simp) _).far (by simp) _).far (by simp) _).far (by simp) _).far (by simp) _).far (by simp) _).put3' rfl _ _ _).drew
              rfl rfl rfl ⟨_, a2 + n, true, rfl, HB.out.1.symm, hfit, ⟨wf_noR, by show _ ≤ (0 : Int); omega, by show (0 : Int) ≤ _; omega, Nat.le_trans hsz ML⟩, fun _ => HB.out.2, by (repeat (first | (with_reducible exact Below.refl _ _) | (with_reducible assumption) | (with_reducible refine Near.up _ ?_) | (with_reducible refine Below.drew ?_) | (with_reducible refine below_alloc_on ?_ _) | (with_reducible refine below_set_on ?_ (by first | (simp; done) | (simp; omega) | omega) _)))⟩
          · have HB := Lib.hid (step_bad (s := l.drop a) hk0 HK.out (.inr (by
              unfold tnW tnB; rw [← HR.out, ← hNV.out, ← hR2.out, HDL.out, decide_eq_true (show l.length - a2 < n by omega)]; simp)))
            go_enter Try.func21, Try.ntmps21
            go_wp2_with (fail)
            refine (K1.out _).mono ?_
            rintro e w1 ⟨rfl, b1⟩
            have X1 := Lib.hid ((X0.out.call b1).alloc (.cells #[.string ⟨l.toArray⟩, .int .i64 a1, .bool true] 52))
            clear b1 X0
            go_wp2_with (fail)
            refine (K2.out _).mono ?_
            rintro e w2 ⟨rfl, b2⟩
            have X2 := Lib.hid (X1.out.call b2)
            have hlt2 := X2.out.b2.1
            clear X1 b2
            go_wp2_with (fail)
            refine at_world (fun W => R3 w l a true W ∧ Box W w2.heap.size #[.string ⟨l.toArray⟩, .int .i64 a2, .bool true]) ⟨X2.out.alloc _, box_new _ _ _⟩ ?_
            rintro W ⟨S1, S3⟩
            have S1 := Lib.hid S1
            clear X2
            have c0 := S1.out.b0.2.1 0
            have c1 := S1.out.b0.2.1 1
            have c2 := S1.out.b0.2.1 2
            simp only [List.getElem?_toArray, List.getElem?_cons_succ, List.getElem?_cons_zero] at c0 c1 c2
            clear S3
            have r0 := S1.out.b1.2.1 0
            have fr0 := S1.out.b1.2.2 0
            have r1 := S1.out.b1.2.1 1
            have fr1 := S1.out.b1.2.2 1
            have r2 := S1.out.b1.2.1 2
            have fr2 := S1.out.b1.2.2 2
            have r3 := S1.out.b1.2.1 3
            have fr3 := S1.out.b1.2.2 3
            have r4 := S1.out.b1.2.1 4
            have fr4 := S1.out.b1.2.2 4
            have r5 := S1.out.b1.2.1 5
            have fr5 := S1.out.b1.2.2 5
            have r6 := S1.out.b1.2.1 6
            have fr6 := S1.out.b1.2.2 6
            have r7 := S1.out.b1.2.1 7
            have fr7 := S1.out.b1.2.2 7
            have r8 := S1.out.b1.2.1 8
            have fr8 := S1.out.b1.2.2 8
            have t0 := S1.out.b2.2.1 0
            have ft0 := S1.out.b2.2.2 0
            have t1 := S1.out.b2.2.1 1
            have ft1 := S1.out.b2.2.2 1
            have t2 := S1.out.b2.2.1 2
            have ft2 := S1.out.b2.2.2 2
            simp only [zeroS, List.getElem?_toArray, List.getElem?_cons_succ, List.getElem?_cons_zero] at r0 r1 r2 r3 r4 r5 r6 r7 r8 t0 t1 t2
            go_region
            all_goals go_wp2_with (fail)
            have bel := S1.out.bel
            refine ret_step (A := w.heap.size + 1) (B := w.heap.size + 1 + 1) (x := ⟨noR, false, ⟨#[]⟩⟩) (a' := a) (ok' := false) (l := l)
              ((((S1.out.b1.put9 rfl _ _ _ _ _ _ _ _ _).far (by simp) _).far (by simp) _).far (by simp) _).drew
              ((((((((((S1.out.b2.far (by simp) _).far (by simp) _).far (by simp) _).far (by simp) _).far (by simp) _).far (by simp) _).far (by simp) _).far (by simp) _).far (by simp) _).put3' rfl _ _ _).drew
              rfl rfl rfl ⟨_, a, false, rfl, by rw [HB.out]; rfl, ha, ⟨wf_noR, by show _ ≤ (0 : Int); omega, by show (0 : Int) ≤ _; omega, Nat.zero_le _⟩, fun h => absurd h (by simp), by (repeat (first | (with_reducible exact Below.refl _ _) | (with_reducible assumption) | (with_reducible refine Near.up _ ?_) | (with_reducible refine Below.drew ?_) | (with_reducible refine below_alloc_on ?_ _) | (with_reducible refine below_set_on ?_ (by first | (simp; done) | (simp; omega) | omega) _)))⟩
    · have HB := Lib.hid (step_bad (s := l.drop a) hk0 HK.out (.inl hk1))
      have hk11 : (((k : Nat) : Int) == 1) = false := by simp; omega
      have hk12 : (((k : Nat) : Int) != 1) = true := by simp; omega
      go_enter Try.func21, Try.ntmps21
      go_wp2_with (fail)
      refine (K1.out _).mono ?_
      rintro e w1 ⟨rfl, b1⟩
      have X1 := Lib.hid ((X0.out.call b1).alloc (.cells #[.string ⟨l.toArray⟩, .int .i64 a1, .bool true] 52))
      clear b1 X0
      go_wp2_with (fail)
      refine (K2.out _).mono ?_
      rintro e w2 ⟨rfl, b2⟩
      have X2 := Lib.hid (X1.out.call b2)
      have hlt2 := X2.out.b2.1
      clear X1 b2
      go_wp2_with (fail)
      refine at_world (fun W => R3 w l a true W ∧ Box W w2.heap.size #[.string ⟨l.toArray⟩, .int .i64 a2, .bool o2]) ⟨X2.out.alloc _, box_new _ _ _⟩ ?_
      rintro W ⟨S1, S3⟩
      have S1 := Lib.hid S1
      clear X2
      have c0 := S1.out.b0.2.1 0
      have c1 := S1.out.b0.2.1 1
      have c2 := S1.out.b0.2.1 2
      simp only [List.getElem?_toArray, List.getElem?_cons_succ, List.getElem?_cons_zero] at c0 c1 c2
      clear S3
      have r0 := S1.out.b1.2.1 0
      have fr0 := S1.out.b1.2.2 0
      have r1 := S1.out.b1.2.1 1
      have fr1 := S1.out.b1.2.2 1
      have r2 := S1.out.b1.2.1 2
      have fr2 := S1.out.b1.2.2 2
      have r3 := S1.out.b1.2.1 3
      have fr3 := S1.out.b1.2.2 3
      have r4 := S1.out.b1.2.1 4
      have fr4 := S1.out.b1.2.2 4
      have r5 := S1.out.b1.2.1 5
      have fr5 := S1.out.b1.2.2 5
      have r6 := S1.out.b1.2.1 6
      have fr6 := S1.out.b1.2.2 6
      have r7 := S1.out.b1.2.1 7
      have fr7 := S1.out.b1.2.2 7
      have r8 := S1.out.b1.2.1 8
      have fr8 := S1.out.b1.2.2 8
      have t0 := S1.out.b2.2.1 0
      have ft0 := S1.out.b2.2.2 0
      have t1 := S1.out.b2.2.1 1
      have ft1 := S1.out.b2.2.2 1
      have t2 := S1.out.b2.2.1 2
      have ft2 := S1.out.b2.2.2 2
      simp only [zeroS, List.getElem?_toArray, List.getElem?_cons_succ, List.getElem?_cons_zero] at r0 r1 r2 r3 r4 r5 r6 r7 r8 t0 t1 t2
      go_region
      all_goals go_wp2_with (fail)
      have bel := S1.out.bel
      refine ret_step (A := w.heap.size + 1) (B := w.heap.size + 1 + 1) (x := ⟨noR, false, ⟨#[]⟩⟩) (a' := a) (ok' := false) (l := l)
        ((((S1.out.b1.put9 rfl _ _ _ _ _ _ _ _ _).far (by simp) _).far (by simp) _).far (by simp) _).drew
        ((((((((((S1.out.b2.far (by simp) _).far (by simp) _).far (by simp) _).far (by simp) _).far (by simp) _).far (by simp) _).far (by simp) _).far (by simp) _).far (by simp) _).put3' rfl _ _ _).drew
        rfl rfl rfl ⟨_, a, false, rfl, by rw [HB.out]; rfl, ha, ⟨wf_noR, by show _ ≤ (0 : Int); omega, by show (0 : Int) ≤ _; omega, Nat.zero_le _⟩, fun h => absurd h (by simp), by (repeat (first | (with_reducible exact Below.refl _ _) | (with_reducible assumption) | (with_reducible refine Near.up _ ?_) | (with_reducible refine Below.drew ?_) | (with_reducible refine below_alloc_on ?_ _) | (with_reducible refine below_set_on ?_ (by first | (simp; done) | (simp; omega) | omega) _)))⟩
end Go.Proofs.Yteeiebopfjlffaa
