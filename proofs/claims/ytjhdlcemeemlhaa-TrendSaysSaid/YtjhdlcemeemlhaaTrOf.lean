/- Contract: Of. -/
import Derived.Test.YtjhdlcemeemlhaaClosed
import Derived.Test.YtjhdlcemeemlhaaOus
namespace Go.Proofs.Ytjhdlcemeemlhaa
open Go.RowKit Go.Maps
set_option linter.unusedVariables false
set_option linter.unusedSimpArgs false
set_option maxRecDepth 100000
attribute [local go_sem] cell_set_ite

theorem box8 {w : World} {g : Nat} {v0 v1 v2 v3 v4 v5 v6 v7 : Value} (h : Box w g #[v0, v1, v2, v3, v4, v5, v6, v7]) :
    w.cell? ⟨g, 0, none⟩ = some v0 ∧ w.cell? ⟨g, 1, none⟩ = some v1 ∧ w.cell? ⟨g, 2, none⟩ = some v2 ∧ w.cell? ⟨g, 3, none⟩ = some v3 ∧ w.cell? ⟨g, 4, none⟩ = some v4 ∧ w.cell? ⟨g, 5, none⟩ = some v5 ∧ w.cell? ⟨g, 6, none⟩ = some v6 ∧ w.cell? ⟨g, 7, none⟩ = some v7 ∧ (∀ i, w.frozen? ⟨g, i, none⟩ = false) :=
  ⟨h.2.1 0, h.2.1 1, h.2.1 2, h.2.1 3, h.2.1 4, h.2.1 5, h.2.1 6, h.2.1 7, h.2.2⟩
theorem box8_set {w : World} {g : Nat} {v0 v1 v2 v3 v4 v5 v6 v7 : Value} (h : Box w g #[v0, v1, v2, v3, v4, v5, v6, v7]) (x0 x1 x2 x3 x4 x5 x6 x7 : Value) :
    Box ((((((((w.setCell ⟨g, 0, none⟩ x0).setCell ⟨g, 1, none⟩ x1).setCell ⟨g, 2, none⟩ x2).setCell ⟨g, 3, none⟩ x3).setCell ⟨g, 4, none⟩ x4).setCell ⟨g, 5, none⟩ x5).setCell ⟨g, 6, none⟩ x6).setCell ⟨g, 7, none⟩ x7) g #[x0, x1, x2, x3, x4, x5, x6, x7] := by
  have := (((((((h.set (i := 0) (by simp) x0).set (i := 1) (by simp) x1).set (i := 2) (by simp) x2).set (i := 3) (by simp) x3).set (i := 4) (by simp) x4).set (i := 5) (by simp) x5).set (i := 6) (by simp) x6).set (i := 7) (by simp) x7
  simpa using this
theorem box7_set {w : World} {g : Nat} {v0 v1 v2 v3 v4 v5 v6 v7 : Value} (h : Box w g #[v0, v1, v2, v3, v4, v5, v6, v7]) (x0 x1 x2 x3 x4 x5 x6 : Value) :
    Box (((((((w.setCell ⟨g, 0, none⟩ x0).setCell ⟨g, 1, none⟩ x1).setCell ⟨g, 2, none⟩ x2).setCell ⟨g, 3, none⟩ x3).setCell ⟨g, 4, none⟩ x4).setCell ⟨g, 5, none⟩ x5).setCell ⟨g, 6, none⟩ x6) g #[x0, x1, x2, x3, x4, x5, x6, v7] := by
  have := ((((((h.set (i := 0) (by simp) x0).set (i := 1) (by simp) x1).set (i := 2) (by simp) x2).set (i := 3) (by simp) x3).set (i := 4) (by simp) x4).set (i := 5) (by simp) x5).set (i := 6) (by simp) x6
  simpa using this
theorem Box.keeps {w w' : World} {g : Nat} {row : Option Nat} {cs : Array Value} (h : Box w g cs) (hg : w.grownBy w' row) (hne : some g ≠ row) : Box w' g cs := by
  have hb := hg.block g h.1 hne
  exact ⟨Nat.lt_of_lt_of_le h.1 hg.size, fun i => (World.cell?_of_block (a := ⟨g, i, none⟩) hb).trans (h.2.1 i), fun i => (World.frozen?_of_block (a := ⟨g, i, none⟩) hb).trans (h.2.2 i)⟩
theorem Below.gb {w w' : World} (h : Below w.heap.size w w') : w.grownBy w' none := ⟨h.os, h.tape, h.output, h.size, fun i hi _ => h.block i hi⟩
theorem end_step {w wb W5 w6 : World} (B1 : Below w.heap.size w wb) (hg6 : W5.grownBy w6 (some w.heap.size)) (B5 : Below wb.heap.size wb W5) {e n sz : Nat} {v : Value} {xs : List Value} (hro : wb.ownsRow (w.heap.size + 1) e sz v n xs) :
    Below w.heap.size w w6 ∧ w6.ownsRow (w.heap.size + 1) e sz v n xs := by
  have hb := B1.size
  have h5 := B5.size
  refine ⟨(B1.trans (B5.mono hb)).grown hg6 (by omega) (fun q hq => by cases hq; exact Nat.le_refl _), (hro.kept (Below.gb B5) ?_).kept hg6 (.inr (fun e => by have := (hro.lt _ e).1; omega))⟩
  cases h : v.ownBlock
  · exact .inl rfl
  · exact .inr (by simp)
theorem cut_no {f : Nat → Ou} {k : Nat} {S : St} (h : ¬ (0 < k ∧ (f k).tick = 0)) : cutS f k S = S := by
  unfold cutS; rw [if_neg h]
theorem cut_yes {f : Nat → Ou} {k : Nat} {S : St} (h : 0 < k ∧ (f k).tick = 0) : cutS f k S = ⟨S.all, [], S.p + 1⟩ := by
  unfold cutS; rw [if_pos h]
theorem box11 {w : World} {g : Nat} {o : Ou} (h : Box w g (ouC o).toArray) :
    w.cell? ⟨g, 0, none⟩ = some (.int .i64 o.tick) ∧ w.cell? ⟨g, 1, none⟩ = some (.int .i64 o.mode) ∧ w.cell? ⟨g, 2, none⟩ = some (.int .i64 o.latch) ∧ w.cell? ⟨g, 3, none⟩ = some (.int .i64 o.notes) ∧ w.cell? ⟨g, 4, none⟩ = some (.int .i64 o.level) ∧ w.cell? ⟨g, 5, none⟩ = some (.int .i64 o.buzzer) ∧
    w.cell? ⟨g, 6, none⟩ = some (.int .i64 o.open_) ∧ w.cell? ⟨g, 7, none⟩ = some (.int .i64 o.pos) ∧ w.cell? ⟨g, 8, none⟩ = some (.int .i64 o.volume) ∧ w.cell? ⟨g, 9, none⟩ = some (.bool o.drop) ∧ w.cell? ⟨g, 10, none⟩ = some (.string o.frame) :=
  ⟨h.2.1 0, h.2.1 1, h.2.1 2, h.2.1 3, h.2.1 4, h.2.1 5, h.2.1 6, h.2.1 7, h.2.1 8, h.2.1 9, h.2.1 10⟩
set_option maxHeartbeats 4000000 in
theorem tr_of (A : Option Addr) (n c : Nat) (f : Nat → Ou) (w : World) (h : Ous w A n f) (hc : n ≤ c) (hn : n ≤ 200) :
    Calls Try.prog 8 #[.slice A n c] w fun e w' => ∃ B d, e = .returned (.slice B (ofS f n).all.length d) ∧ (ofS f n).all.length ≤ d ∧ Bks w' B (ofS f n).all.length (atL (ofS f n).all) ∧ Below w.heap.size w w' := by
  have HI := Lib.hid h
  have HG := Lib.hid (ofS_good f n h.1)
  have HP := Lib.hid (ofS_p f)
  have hmm := @run_makeMap Try.prog
  clear h
  go_enter Try.func8, Try.ntmps8
  go_wp2_with (fail)
  go_loopw [3, 4, 6, 7, 8, 9, 10, 14] (fun l p _ _ _ _ _ i wr => ∃ k : Nat, k ≤ n ∧ i = .int .i64 k ∧ p = .int .i64 (ofS f k).p ∧ wr.ownsRow (w.heap.size + 1) 33 7 l (ofS f k).cl.length ((ofS f k).cl.flatMap bkC) ∧
      (∃ D, wr.ownsMap Try.prog 3 miR w.heap.size k D ∧ Rep D (ofS f k).M) ∧ Below w.heap.size w wr) (fun _ _ _ _ _ _ _ i _ => n - (intOf i).toNat)
  case atStart => exact ⟨0, Nat.zero_le _, rfl, rfl, World.ownsRow_nil _ _ _ _, ⟨_, World.ownsMap_made _ _ _ _, rep_nil⟩, (Below.refl _ _).alloc (Nat.le_refl _) _⟩
  case round =>
    obtain ⟨k, hk, rfl, rfl, hrow, ⟨D, hown, hrep⟩, B1⟩ := hrel
    have HG1 := Lib.hid (HG.out k hk)
    have HR := Lib.hid hrep
    have hp1 := HP.out k
    have hp0 := HG1.out.p0
    have hb1 := B1.size
    have HOW := Lib.hid hown
    have HRO := Lib.hid hrow
    have hlw := hown.lt
    have HLEN := Lib.hid HG1.out.len
    have HSH := Lib.hid (show ofS f (k + 1) = upS f k (cutS f k (ofS f k)) from rfl)
    have ML : 1000 ≤ maxLen := by decide
    clear hrep hrow hown
    by_cases hlt : k < n
    · obtain ⟨bb, off, rfl, hbb, hcell⟩ := HI.out.at_ (w' := wr) (by omega)
      have hcl := hcell wr B1 k hlt
      have hai := mnO_in _ (HI.out.1 k hlt)
      clear hcell
      generalize hS0 : ofS f k = S at *
      obtain ⟨a, ha⟩ : ∃ a, mnO (f k) = a := ⟨_, rfl⟩
      have hwr : wrap64 ((max (f k).tick 0).tdiv 6000) = a := by
        have e : wrap64 (mnO (f k)) = mnO (f k) := by unfold wrap64; omega
        exact e.trans ha
      rw [ha] at hai
      have HWA := Lib.hid (wf_int hai)
      have HA := Lib.hid ha
      generalize hf : f k = o at *
      obtain ⟨c0, c1, c2, c3, c4, c5, c6, c7, c8, c9, c10⟩ := hcl
      have HF := Lib.hid hf
      have HS0 := Lib.hid hS0
      have HAI := Lib.hid hai
      clear hf hS0 ha hai
      by_cases hk0 : 0 < k
      · cases ht : (o.tick == 0) with
        | false =>
          obtain ⟨m', hm1, hw, he⟩ := mem_upM (p := S.p) (a := a) (i := (k : Int)) (o := o) HG1.out.ne
          rcases hw with hw | hw
          · obtain ⟨hym, hno⟩ := hw
            unfold nwB at hym
            have KC := Lib.hid fun w => tr_counted ⟨S.p, a, 0, 0, o.open_, o.open_, 0⟩ o (by simp) (by simp) (by simp) (by simp) w
            have HNO := Lib.hid hno
            clear hno
            generalize hnb : ctB ⟨S.p, a, 0, 0, o.open_, o.open_, 0⟩ o = nb at *
            unfold bkV ouV at KC
            have HYM2 := Lib.hid hym
            have HE := Lib.hid he
            have HM1 := Lib.hid hm1
            clear hym he hm1 hnb
            have DR : Below wr.heap.size wr wr := Below.refl _ _
            go_wp2_with (first
              | (at_lookup; (refine look_miss _ rfl _ _ rfl w.heap.size k D S.M HR.out rfl (HOW.out.alloc _) a (congrArg (Value.int .i64) hwr) HWA.out HNO.out ?_; unfold miV miZ no0)))
            have BX := Lib.hid (box_at (wr.alloc (.cells (ouC o).toArray 31)) (miC ⟨⟨S.p, a, 0, 0, o.open_, o.open_, 0⟩, k⟩).toArray 39 (g := (wr.heap.size + 1)) (by simp))
            try rw [hwr]
            refine (KC.out _).mono ?_
            rintro e w4 ⟨rfl, b4⟩
            have B4 : Below wr.heap.size wr w4 := below_call (by (repeat (first | (with_reducible exact Below.refl _ _) | (with_reducible assumption) | (with_reducible refine Near.up _ ?_) | (with_reducible refine Below.drew ?_) | (with_reducible refine below_alloc_on ?_ _) | (with_reducible refine below_set_on ?_ (by first | (simp; done) | (simp; omega) | omega) _)))) b4
            obtain ⟨e0, e1, e2, e3, e4, e5, e6, e7, ef⟩ := box8 (BX.out.below b4)
            clear b4
            go_wp2_with (first
              | (at_mapUpdate; (refine wpList_mapUpdate_own _ rfl _ _ _ 36 rfl 3 39 law3 Try.underlying36 miR w.heap.size k D rfl (HOW.out.kept (Below.gb (by (repeat (first | (with_reducible exact Below.refl _ _) | (with_reducible assumption) | (with_reducible refine Near.up _ ?_) | (with_reducible refine Below.drew ?_) | (with_reducible refine below_alloc_on ?_ _) | (with_reducible refine below_set_on ?_ (by first | (simp; done) | (simp; omega) | omega) _))))) (by simp)) (by omega) (.int .i64 a) _ (.int .i64 a) (by first | rfl | exact congrArg (Value.int .i64) hwr) rfl (keyOf_int_mk Try.underlying3 HWA.out) (miD ⟨nb, (k : Int)⟩) [] rfl ?_); intro w6 hown6 hg6))
            have hcut : cutS f k S = S := cut_no (by rw [HF.out]; rintro ⟨_, h2⟩; rw [h2] at ht; simp at ht)
            have hS1 : ofS f (k + 1) = ⟨S.cl, upM S.p a k o S.M, S.p⟩ := by rw [HSH.out, hcut]; unfold upS; rw [HF.out, HA.out]
            have hrep6 := Rep.put HR.out HOW.out.isMap HG1.out.ne HM1.out HE.out
            rw [HYM2.out] at hrep6
            obtain ⟨B6, hro6⟩ := end_step B1 hg6 (by (repeat (first | (with_reducible exact Below.refl _ _) | (with_reducible assumption) | (with_reducible refine Near.up _ ?_) | (with_reducible refine Below.drew ?_) | (with_reducible refine below_alloc_on ?_ _) | (with_reducible refine below_set_on ?_ (by first | (simp; done) | (simp; omega) | omega) _)))) HRO.out
            have HE1 := Lib.hid hS1
            have HE2 := Lib.hid hro6
            have HE3 := Lib.hid hrep6
            have HE4 := Lib.hid hown6
            clear hS1 hro6 hrep6 hown6 hcut
            go_wp2_with (fail)
            go_roundw
            case rel => exact ⟨k + 1, by omega, by go_num, by rw [HE1.out], by rw [HE1.out]; exact HE2.out, ⟨_, HE4.out, by rw [HE1.out]; exact HE3.out⟩, B6⟩
            case measure => simp [intOf]; omega
          · obtain ⟨y, hyM, hya, hym⟩ := hw
            have hyt := HG1.out.tk y hyM
            have hyd := HG1.out.dr y hyM
            have KC := Lib.hid fun w => tr_counted y.b o (by omega) (by omega) (by omega) (by omega) w
            have HYM := Lib.hid hyM
            have HYA := Lib.hid hya
            clear hyM hya hyt hyd
            generalize hnb : ctB y.b o = nb at *
            unfold bkV ouV at KC
            have HYM2 := Lib.hid hym
            have HE := Lib.hid he
            have HM1 := Lib.hid hm1
            clear hym he hm1 hnb
            have DR : Below wr.heap.size wr wr := Below.refl _ _
            go_wp2_with (first
              | (at_lookup; (refine look_hit _ rfl _ _ rfl w.heap.size k D S.M HR.out rfl (HOW.out.alloc _) a (congrArg (Value.int .i64) hwr) HWA.out y HYM.out HYA.out ?_; unfold miV)))
            have BX := Lib.hid (box_at (wr.alloc (.cells (ouC o).toArray 31)) (miC y).toArray 39 (g := (wr.heap.size + 1)) (by simp))
            try rw [hwr]
            refine (KC.out _).mono ?_
            rintro e w4 ⟨rfl, b4⟩
            have B4 : Below wr.heap.size wr w4 := below_call (by (repeat (first | (with_reducible exact Below.refl _ _) | (with_reducible assumption) | (with_reducible refine Near.up _ ?_) | (with_reducible refine Below.drew ?_) | (with_reducible refine below_alloc_on ?_ _) | (with_reducible refine below_set_on ?_ (by first | (simp; done) | (simp; omega) | omega) _)))) b4
            obtain ⟨e0, e1, e2, e3, e4, e5, e6, e7, ef⟩ := box8 (BX.out.below b4)
            clear b4
            go_wp2_with (first
              | (at_mapUpdate; (refine wpList_mapUpdate_own _ rfl _ _ _ 36 rfl 3 39 law3 Try.underlying36 miR w.heap.size k D rfl (HOW.out.kept (Below.gb (by (repeat (first | (with_reducible exact Below.refl _ _) | (with_reducible assumption) | (with_reducible refine Near.up _ ?_) | (with_reducible refine Below.drew ?_) | (with_reducible refine below_alloc_on ?_ _) | (with_reducible refine below_set_on ?_ (by first | (simp; done) | (simp; omega) | omega) _))))) (by simp)) (by omega) (.int .i64 a) _ (.int .i64 a) (by first | rfl | exact congrArg (Value.int .i64) hwr) rfl (keyOf_int_mk Try.underlying3 HWA.out) (miD ⟨nb, y.first⟩) [] rfl ?_); intro w6 hown6 hg6))
            have hcut : cutS f k S = S := cut_no (by rw [HF.out]; rintro ⟨_, h2⟩; rw [h2] at ht; simp at ht)
            have hS1 : ofS f (k + 1) = ⟨S.cl, upM S.p a k o S.M, S.p⟩ := by rw [HSH.out, hcut]; unfold upS; rw [HF.out, HA.out]
            have hrep6 := Rep.put HR.out HOW.out.isMap HG1.out.ne HM1.out HE.out
            rw [HYM2.out] at hrep6
            obtain ⟨B6, hro6⟩ := end_step B1 hg6 (by (repeat (first | (with_reducible exact Below.refl _ _) | (with_reducible assumption) | (with_reducible refine Near.up _ ?_) | (with_reducible refine Below.drew ?_) | (with_reducible refine below_alloc_on ?_ _) | (with_reducible refine below_set_on ?_ (by first | (simp; done) | (simp; omega) | omega) _)))) HRO.out
            have HE1 := Lib.hid hS1
            have HE2 := Lib.hid hro6
            have HE3 := Lib.hid hrep6
            have HE4 := Lib.hid hown6
            clear hS1 hro6 hrep6 hown6 hcut
            go_wp2_with (fail)
            go_roundw
            case rel => exact ⟨k + 1, by omega, by go_num, by rw [HE1.out], by rw [HE1.out]; exact HE2.out, ⟨_, HE4.out, by rw [HE1.out]; exact HE3.out⟩, B6⟩
            case measure => simp [intOf]; omega
        | true =>
          obtain ⟨m', hm1, hw, he⟩ := mem_upM (p := S.p + 1) (a := a) (i := (k : Int)) (o := o) (M := []) List.Pairwise.nil
          rcases hw with hw | ⟨y, hyM, _⟩
          · obtain ⟨hym, hno⟩ := hw
            unfold nwB at hym
            have KC := Lib.hid fun w => tr_counted ⟨(S.p + 1), a, 0, 0, o.open_, o.open_, 0⟩ o (by simp) (by simp) (by simp) (by simp) w
            have HNO := Lib.hid hno
            clear hno
            generalize hnb : ctB ⟨(S.p + 1), a, 0, 0, o.open_, o.open_, 0⟩ o = nb at *
            unfold bkV ouV at KC
            have HYM2 := Lib.hid hym
            have HE := Lib.hid he
            have HM1 := Lib.hid hm1
            clear hym he hm1 hnb
            go_wp2_with (fail)
            have hcon := Lib.hid (tr_closed w.heap.size k D S.M (wr.alloc (.cells (ouC o).toArray 31)) (HOW.out.alloc _) HR.out (by omega) HG1.out.ne HG1.out.lt)
            refine hcon.out.mono ?_
            rintro e w2 ⟨A2, q2, D3, rfl, hq2, hbk2, hown2, hrp2, hg2⟩
            have hno3 : Value.ownBlock u3 ≠ some wr.heap.size := fun e => by have := (HRO.out.lt _ e).2; omega
            have hrow2 := (HRO.out.alloc (.cells (ouC o).toArray 31)).kept hg2 (.inr (fun e => by have := (HRO.out.lt _ e).1; omega))
            have HRO2 := Lib.hid hrow2
            have HBK2 := Lib.hid hbk2
            have HOW2 := Lib.hid hown2
            have HRP3 := Lib.hid hrp2
            have B2 := (B1.alloc hb1 (.cells (ouC o).toArray 31)).grown hg2 (by simp; omega) (fun q hq => by cases hq; exact Nat.le_refl _)
            have hs2 := hg2.size
            simp at hs2
            have hg2f := Lib.hid hg2
            clear hrow2 hbk2 hown2 hrp2
            have BO2 := Lib.hid ((box_new wr (ouC o).toArray 31).keeps hg2f.out (by simp; omega))
            have hml : (S.M.map Mi.b).length = S.M.length := List.length_map _
            have hlv2 := HRO2.out.lt
            go_wp2_with (first
              | (at_builtin; (refine app_bks rfl _ _ rfl rfl rfl hml (fun _ _ => rfl) HBK2.out HRO2.out (by omega) (by have := HLEN.out; omega) ?_; intro v3 w3 ho3 hg3; have HOW3 := Lib.hid (HOW2.out.kept hg3 (fun e => by have := (hlv2 _ e.symm).1; omega)); have HRO3 := Lib.hid ho3; have B3 := B2.grown hg3 (by omega) (fun q hq => by have := (hlv2 q hq).1; omega); have hs3 := hg3.size; have hq3 : wr.heap.size < w3.heap.size := (by omega); have DR : Below w3.heap.size w3 w3 := Below.refl _ _; obtain ⟨d0, d1, d2, d3, d4, d5, d6, d7, d8, d9, d10⟩ := box11 (BO2.out.keeps hg3 (fun e => hno3 e.symm))))
              | (at_lookup; (refine look_miss _ rfl _ _ rfl w.heap.size k D3 ([] : List Mi) HRP3.out rfl (HOW3.out) a (congrArg (Value.int .i64) hwr) HWA.out HNO.out ?_; unfold miV miZ no0)))
            have BX := Lib.hid (box_at w3 (miC ⟨⟨(S.p + 1), a, 0, 0, o.open_, o.open_, 0⟩, k⟩).toArray 39 (g := w3.heap.size) (by simp))
            try rw [hwr]
            refine (KC.out _).mono ?_
            rintro e w4 ⟨rfl, b4⟩
            have B4 : Below w3.heap.size w3 w4 := below_call (by (repeat (first | (with_reducible exact Below.refl _ _) | (with_reducible assumption) | (with_reducible refine Near.up _ ?_) | (with_reducible refine Below.drew ?_) | (with_reducible refine below_alloc_on ?_ _) | (with_reducible refine below_set_on ?_ (by first | (simp; done) | (simp; omega) | omega) _)))) b4
            obtain ⟨e0, e1, e2, e3, e4, e5, e6, e7, ef⟩ := box8 (BX.out.below b4)
            clear b4
            go_wp2_with (first
              | (at_mapUpdate; (refine wpList_mapUpdate_own _ rfl _ _ _ 36 rfl 3 39 law3 Try.underlying36 miR w.heap.size k D3 rfl (HOW3.out.kept (Below.gb (by (repeat (first | (with_reducible exact Below.refl _ _) | (with_reducible assumption) | (with_reducible refine Near.up _ ?_) | (with_reducible refine Below.drew ?_) | (with_reducible refine below_alloc_on ?_ _) | (with_reducible refine below_set_on ?_ (by first | (simp; done) | (simp; omega) | omega) _))))) (by simp)) (by omega) (.int .i64 a) _ (.int .i64 a) (by first | rfl | exact congrArg (Value.int .i64) hwr) rfl (keyOf_int_mk Try.underlying3 HWA.out) (miD ⟨nb, (k : Int)⟩) [] rfl ?_); intro w6 hown6 hg6))
            have hcut : cutS f k S = ⟨S.all, [], S.p + 1⟩ := cut_yes ⟨hk0, by rw [HF.out]; simpa using ht⟩
            have hS1 : ofS f (k + 1) = ⟨S.all, upM (S.p + 1) a k o ([] : List Mi), (S.p + 1)⟩ := by rw [HSH.out, hcut]; unfold upS; rw [HF.out, HA.out]
            have hrep6 := Rep.put HRP3.out HOW3.out.isMap List.Pairwise.nil HM1.out HE.out
            rw [HYM2.out] at hrep6
            obtain ⟨B6, hro6⟩ := end_step B3 hg6 (by (repeat (first | (with_reducible exact Below.refl _ _) | (with_reducible assumption) | (with_reducible refine Near.up _ ?_) | (with_reducible refine Below.drew ?_) | (with_reducible refine below_alloc_on ?_ _) | (with_reducible refine below_set_on ?_ (by first | (simp; done) | (simp; omega) | omega) _)))) HRO3.out
            have HE1 := Lib.hid hS1
            have HE2 := Lib.hid hro6
            have HE3 := Lib.hid hrep6
            have HE4 := Lib.hid hown6
            clear hS1 hro6 hrep6 hown6 hcut
            go_wp2_with (fail)
            go_roundw
            case rel => exact ⟨k + 1, by omega, by go_num, by rw [HE1.out], by rw [HE1.out]; exact HE2.out, ⟨_, HE4.out, by rw [HE1.out]; exact HE3.out⟩, B6⟩
            case measure => simp [intOf]; omega
          · simp at hyM
      · obtain ⟨m', hm1, hw, he⟩ := mem_upM (p := S.p) (a := a) (i := (k : Int)) (o := o) HG1.out.ne
        rcases hw with hw | hw
        · obtain ⟨hym, hno⟩ := hw
          unfold nwB at hym
          have KC := Lib.hid fun w => tr_counted ⟨S.p, a, 0, 0, o.open_, o.open_, 0⟩ o (by simp) (by simp) (by simp) (by simp) w
          have HNO := Lib.hid hno
          clear hno
          generalize hnb : ctB ⟨S.p, a, 0, 0, o.open_, o.open_, 0⟩ o = nb at *
          unfold bkV ouV at KC
          have HYM2 := Lib.hid hym
          have HE := Lib.hid he
          have HM1 := Lib.hid hm1
          clear hym he hm1 hnb
          have DR : Below wr.heap.size wr wr := Below.refl _ _
          go_wp2_with (first
            | (at_lookup; (refine look_miss _ rfl _ _ rfl w.heap.size k D S.M HR.out rfl (HOW.out.alloc _) a (congrArg (Value.int .i64) hwr) HWA.out HNO.out ?_; unfold miV miZ no0)))
          have BX := Lib.hid (box_at (wr.alloc (.cells (ouC o).toArray 31)) (miC ⟨⟨S.p, a, 0, 0, o.open_, o.open_, 0⟩, k⟩).toArray 39 (g := (wr.heap.size + 1)) (by simp))
          try rw [hwr]
          refine (KC.out _).mono ?_
          rintro e w4 ⟨rfl, b4⟩
          have B4 : Below wr.heap.size wr w4 := below_call (by (repeat (first | (with_reducible exact Below.refl _ _) | (with_reducible assumption) | (with_reducible refine Near.up _ ?_) | (with_reducible refine Below.drew ?_) | (with_reducible refine below_alloc_on ?_ _) | (with_reducible refine below_set_on ?_ (by first | (simp; done) | (simp; omega) | omega) _)))) b4
          obtain ⟨e0, e1, e2, e3, e4, e5, e6, e7, ef⟩ := box8 (BX.out.below b4)
          clear b4
          go_wp2_with (first
            | (at_mapUpdate; (refine wpList_mapUpdate_own _ rfl _ _ _ 36 rfl 3 39 law3 Try.underlying36 miR w.heap.size k D rfl (HOW.out.kept (Below.gb (by (repeat (first | (with_reducible exact Below.refl _ _) | (with_reducible assumption) | (with_reducible refine Near.up _ ?_) | (with_reducible refine Below.drew ?_) | (with_reducible refine below_alloc_on ?_ _) | (with_reducible refine below_set_on ?_ (by first | (simp; done) | (simp; omega) | omega) _))))) (by simp)) (by omega) (.int .i64 a) _ (.int .i64 a) (by first | rfl | exact congrArg (Value.int .i64) hwr) rfl (keyOf_int_mk Try.underlying3 HWA.out) (miD ⟨nb, (k : Int)⟩) [] rfl ?_); intro w6 hown6 hg6))
          have hcut : cutS f k S = S := cut_no (fun h => hk0 h.1)
          have hS1 : ofS f (k + 1) = ⟨S.cl, upM S.p a k o S.M, S.p⟩ := by rw [HSH.out, hcut]; unfold upS; rw [HF.out, HA.out]
          have hrep6 := Rep.put HR.out HOW.out.isMap HG1.out.ne HM1.out HE.out
          rw [HYM2.out] at hrep6
          obtain ⟨B6, hro6⟩ := end_step B1 hg6 (by (repeat (first | (with_reducible exact Below.refl _ _) | (with_reducible assumption) | (with_reducible refine Near.up _ ?_) | (with_reducible refine Below.drew ?_) | (with_reducible refine below_alloc_on ?_ _) | (with_reducible refine below_set_on ?_ (by first | (simp; done) | (simp; omega) | omega) _)))) HRO.out
          have HE1 := Lib.hid hS1
          have HE2 := Lib.hid hro6
          have HE3 := Lib.hid hrep6
          have HE4 := Lib.hid hown6
          clear hS1 hro6 hrep6 hown6 hcut
          go_wp2_with (fail)
          go_roundw
          case rel => exact ⟨k + 1, by omega, by go_num, by rw [HE1.out], by rw [HE1.out]; exact HE2.out, ⟨_, HE4.out, by rw [HE1.out]; exact HE3.out⟩, B6⟩
          case measure => simp [intOf]; omega
        · obtain ⟨y, hyM, hya, hym⟩ := hw
          have hyt := HG1.out.tk y hyM
          have hyd := HG1.out.dr y hyM
          have KC := Lib.hid fun w => tr_counted y.b o (by omega) (by omega) (by omega) (by omega) w
          have HYM := Lib.hid hyM
          have HYA := Lib.hid hya
          clear hyM hya hyt hyd
          generalize hnb : ctB y.b o = nb at *
          unfold bkV ouV at KC
          have HYM2 := Lib.hid hym
          have HE := Lib.hid he
          have HM1 := Lib.hid hm1
          clear hym he hm1 hnb
          have DR : Below wr.heap.size wr wr := Below.refl _ _
          go_wp2_with (first
            | (at_lookup; (refine look_hit _ rfl _ _ rfl w.heap.size k D S.M HR.out rfl (HOW.out.alloc _) a (congrArg (Value.int .i64) hwr) HWA.out y HYM.out HYA.out ?_; unfold miV)))
          have BX := Lib.hid (box_at (wr.alloc (.cells (ouC o).toArray 31)) (miC y).toArray 39 (g := (wr.heap.size + 1)) (by simp))
          try rw [hwr]
          refine (KC.out _).mono ?_
          rintro e w4 ⟨rfl, b4⟩
          have B4 : Below wr.heap.size wr w4 := below_call (by (repeat (first | (with_reducible exact Below.refl _ _) | (with_reducible assumption) | (with_reducible refine Near.up _ ?_) | (with_reducible refine Below.drew ?_) | (with_reducible refine below_alloc_on ?_ _) | (with_reducible refine below_set_on ?_ (by first | (simp; done) | (simp; omega) | omega) _)))) b4
          obtain ⟨e0, e1, e2, e3, e4, e5, e6, e7, ef⟩ := box8 (BX.out.below b4)
          clear b4
          go_wp2_with (first
            | (at_mapUpdate; (refine wpList_mapUpdate_own _ rfl _ _ _ 36 rfl 3 39 law3 Try.underlying36 miR w.heap.size k D rfl (HOW.out.kept (Below.gb (by (repeat (first | (with_reducible exact Below.refl _ _) | (with_reducible assumption) | (with_reducible refine Near.up _ ?_) | (with_reducible refine Below.drew ?_) | (with_reducible refine below_alloc_on ?_ _) | (with_reducible refine below_set_on ?_ (by first | (simp; done) | (simp; omega) | omega) _))))) (by simp)) (by omega) (.int .i64 a) _ (.int .i64 a) (by first | rfl | exact congrArg (Value.int .i64) hwr) rfl (keyOf_int_mk Try.underlying3 HWA.out) (miD ⟨nb, y.first⟩) [] rfl ?_); intro w6 hown6 hg6))
          have hcut : cutS f k S = S := cut_no (fun h => hk0 h.1)
          have hS1 : ofS f (k + 1) = ⟨S.cl, upM S.p a k o S.M, S.p⟩ := by rw [HSH.out, hcut]; unfold upS; rw [HF.out, HA.out]
          have hrep6 := Rep.put HR.out HOW.out.isMap HG1.out.ne HM1.out HE.out
          rw [HYM2.out] at hrep6
          obtain ⟨B6, hro6⟩ := end_step B1 hg6 (by (repeat (first | (with_reducible exact Below.refl _ _) | (with_reducible assumption) | (with_reducible refine Near.up _ ?_) | (with_reducible refine Below.drew ?_) | (with_reducible refine below_alloc_on ?_ _) | (with_reducible refine below_set_on ?_ (by first | (simp; done) | (simp; omega) | omega) _)))) HRO.out
          have HE1 := Lib.hid hS1
          have HE2 := Lib.hid hro6
          have HE3 := Lib.hid hrep6
          have HE4 := Lib.hid hown6
          clear hS1 hro6 hrep6 hown6 hcut
          go_wp2_with (fail)
          go_roundw
          case rel => exact ⟨k + 1, by omega, by go_num, by rw [HE1.out], by rw [HE1.out]; exact HE2.out, ⟨_, HE4.out, by rw [HE1.out]; exact HE3.out⟩, B6⟩
          case measure => simp [intOf]; omega
    · obtain rfl : k = n := by omega
      have hml : ((ofS f k).M.map Mi.b).length = (ofS f k).M.length := List.length_map _
      have hcon := Lib.hid (tr_closed w.heap.size k D (ofS f k).M wr HOW.out HR.out (by omega) HG1.out.ne HG1.out.lt)
      go_wp2_with (fail)
      refine hcon.out.mono ?_
      rintro e w2 ⟨A2, q2, D3, rfl, hq2, hbk2, hown2, hrp2, hg2⟩
      have hrow2 := HRO.out.kept hg2 (.inr (fun e => by have := (HRO.out.lt _ e).1; omega))
      have HRO2 := Lib.hid hrow2
      have HBK2 := Lib.hid hbk2
      have B2 := B1.grown hg2 hb1 (fun q hq => by cases hq; exact Nat.le_refl _)
      have hs2 := hg2.size
      clear hrow2 hbk2 hown2 hrp2 hg2
      go_wp2_with (at_builtin; refine app_bks rfl _ _ rfl rfl rfl hml (fun _ _ => rfl) HBK2.out HRO2.out (by omega) (by have := HLEN.out; omega) ?_; intro v3 w3 ho3 hg3)
      obtain ⟨A4, q4, rfl, hq4⟩ := row_form ho3
      have HFIN := Lib.hid (bks_row ho3 rfl)
      have B3 := B2.grown hg3 (by omega) (fun q hq => by have := (HRO2.out.lt q hq).1; omega)
      clear ho3
      go_wp2_with (fail)
      all_goals go_ret
      all_goals exact ⟨A4, q4, rfl, hq4, HFIN.out, B3⟩
end Go.Proofs.Ytjhdlcemeemlhaa
