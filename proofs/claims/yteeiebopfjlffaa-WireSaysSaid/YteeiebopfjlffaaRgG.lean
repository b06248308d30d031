/- The document's Get. -/
import Derived.Test.YteeiebopfjlffaaRgS
import Derived.Deep.Cut
namespace Go.Proofs.Yteeiebopfjlffaa
open Go.RowKit Ieee
set_option linter.unusedVariables false
set_option linter.unusedSimpArgs false
set_option maxRecDepth 100000
attribute [local go_sem] cell_set_ite run_store_real

/-- As Got, but for what is no number. -/
def Got2 (text : List UInt8) (op ok : Bool) (ms : List Sp) : Prop := ∃ ms', ms.map nrm = ms'.map nrm ∧ wfL ms' ∧ Got text op ok ms'
def GrI (text : List UInt8) (op : Bool) (ms : List Sp) (a : Nat) (ok : Bool) : Prop :=
  (ok = true → op = true ∧ ms.length ≤ 320 ∧ ∃ ms', ms.map nrm = ms'.map nrm ∧ Gone text ms' (text.drop a) false) ∧
  (ok = false → op = true → ∀ ls, wfL ls → okB ls = true → ls.length ≤ 320 → enL ls ≠ text)
theorem GrI.step {text : List UInt8} {op : Bool} {ms : List Sp} {a a' : Nat} {ok' : Bool} {x : Sp} (h : GrI text op ms a true) (ha : a < text.length) (E : ok' = (true && !stW (text.drop a)))
    (G : ok' = true → nrm x = stV (text.drop a) ∧ text.drop a' = stR (text.drop a)) : GrI text op (ms ++ [x]) a' (ok' && decide ((ms ++ [x]).length ≤ 320)) := by
  obtain ⟨ho, hl, ms', hm, hg⟩ := h.1 rfl
  have hne : text.drop a ≠ [] := by
    intro e
    have := congrArg List.length e
    rw [List.length_drop] at this
    simp at this
    omega
  have hn := hg.next hne
  have hlen : ms.length = ms'.length := by simpa using congrArg List.length hm
  cases ok' with
  | false =>
    have hw : stW (text.drop a) = true := by simpa using E.symm
    rw [hw] at hn
    exact ⟨fun h => absurd h (by simp), fun _ _ ls wl ol _ => hn.no ls wl ol⟩
  | true =>
    have hw : stW (text.drop a) = false := by simpa using E.symm
    rw [hw] at hn
    obtain ⟨g1, g2⟩ := G rfl
    by_cases hc : (ms ++ [x]).length ≤ 320
    · rw [decide_eq_true hc]
      refine ⟨fun _ => ⟨ho, hc, ms' ++ [stV (text.drop a)], ?_, by rw [g2]; exact hn⟩, fun h => absurd h (by simp)⟩
      rw [List.map_append, List.map_append, hm]
      simp [g1, (st_back _ hw).2.2.2]
    · rw [decide_eq_false hc]
      refine ⟨fun h => absurd h (by simp), fun _ _ => hn.far ?_⟩
      simp only [List.length_append, List.length_cons, List.length_nil] at hc ⊢
      omega
theorem GrI.done {text : List UInt8} {op : Bool} {ms : List Sp} {a : Nat} (h : GrI text op ms a true) (ha : ¬ a < text.length) : Got2 text op true ms := by
  obtain ⟨ho, hl, ms', hm, hg⟩ := h.1 rfl
  have he : text.drop a = [] := List.drop_eq_nil_of_le (by omega)
  rw [he] at hg
  have hlen : ms.length = ms'.length := by simpa using congrArg List.length hm
  exact ⟨ms', hm, hg.wf, fun _ => ⟨ho, hg.done.1, hg.done.2, by omega⟩, fun h => absurd h (by simp)⟩
theorem GrI.none {text : List UInt8} {op : Bool} {ms : List Sp} {a : Nat} (h : GrI text op ms a false) : Got2 text op false [] :=
  ⟨[], rfl, fun x h => by simp at h, fun h => absurd h (by simp), fun _ => ⟨rfl, h.2 rfl⟩⟩
theorem GrI.start (text : List UInt8) (op : Bool) : GrI text op [] 0 op :=
  ⟨fun h => ⟨h, by simp, [], rfl, by rw [List.drop_zero]; exact Gone.start text⟩, fun h h2 => by rw [h] at h2; exact absurd h2 (by simp)⟩
theorem wi_own_set {W : World} {base size n : Nat} {e : TypeId} {v : Value} {xs : List Value} (h : W.ownsRow base e size v n xs) {q i : Nat} (hne : v.ownBlock ≠ some q) (u : Value) : (W.setCell ⟨q, i, none⟩ u).ownsRow base e size v n xs :=
  h.kept (row := some q) (gb_set W q i u) (.inr hne)
set_option maxHeartbeats 8000000 in
theorem rg_get (s : ByteArray) (hs : s.size ≤ 100000) (w : World) :
    Calls Try.prog 10 #[.string s] w fun e w' => ∃ A n c f ok, e = .returned (.tuple #[.slice A n c, .bool ok]) ∧ Stp w' A n f ∧ n ≤ c ∧ n ≤ 321 ∧ Got2 (toldB s).data.toList (openB s) ok (spL f n) ∧ Below w.heap.size w w' := by
  have KO := Lib.hid fun w => ref6_open s w (by omega)
  have D0 : Below w.heap.size w w := Below.refl _ _
  have htl : (toldB s).data.toList.length ≤ 100000 := by
    have e : (toldB s).data.toList.length = (toldB s).size := Array.length_toList
    rw [e]
    unfold toldB
    split
    · unfold insideB
      rw [ByteArray.size_extract]
      omega
    · exact Nat.zero_le _
  have htx : toldB s = ⟨(toldB s).data.toList.toArray⟩ := by cases toldB s; simp
  rw [htx] at KO
  clear htx
  generalize (toldB s).data.toList = text at *
  generalize openB s = op at *
  have hts : (ByteArray.mk text.toArray).size = text.length := List.size_toArray
  obtain ⟨i0, hi0, hz0, hz1, hz2⟩ := info_parts infoStep
  go_enter Try.func10, Try.ntmps10
  go_wp2_with (go_at_call 20; refine (KO.out _).mono ?_; rintro e w1 ⟨rfl, rfl⟩)
  go_loopw [7, 8] (fun v _ wr => ∃ ms a ok, ms.length ≤ 321 ∧ a ≤ text.length ∧ GrI text op ms a ok ∧ (∀ x ∈ ms, wfX x) ∧ Below w.heap.size w wr ∧ Box wr w.heap.size #[.string ⟨text.toArray⟩, .int .i64 (a : Nat), .bool ok] ∧ wr.ownsRow (w.heap.size + 1) 35 9 v ms.length (ms.flatMap stC)) (fun v _ _ => 322 - lenV v)
  case atStart => exact ⟨[], 0, op, by simp, Nat.zero_le _, GrI.start text op, fun x h => by simp at h, below_alloc_on D0 _, box_new _ _ _, World.ownsRow_nil _ _ _ _⟩
  case round =>
    obtain ⟨ms, a, ok, hm, ha, hgr, hwf, A1, hbx, ho⟩ := hrel
    obtain ⟨A, c, rfl, hnc⟩ := row_form ho
    have c0 := hbx.2.1 0
    have c1 := hbx.2.1 1
    have c2 := hbx.2.1 2
    simp only [List.getElem?_toArray, List.getElem?_cons_succ, List.getElem?_cons_zero] at c0 c1 c2
    have lt0 := hbx.1
    have HG := Lib.hid hgr
    have HW := Lib.hid hwf
    have HX := Lib.hid hbx
    have HO := Lib.hid ho
    clear hgr hwf hbx ho
    cases ok with
    | false =>
      have HN := Lib.hid HG.out.none
      go_wp2_with (fail)
      all_goals go_ret2
      all_goals exact ⟨none, 0, 0, fun _ => ⟨noR, false, ⟨#[]⟩⟩, false, rfl, ⟨fun i h => absurd h (by omega), fun h => absurd h (by omega)⟩, Nat.le_refl _, by omega, HN.out, A1⟩
    | true =>
      by_cases hlt : a < text.length
      · have KS := Lib.hid (rg_step text a true (by omega) htl)
        have hm2 := (HG.out.1 rfl).2.1
        unfold rV at KS
        go_wp2_with (fail)
        refine (KS.out _).mono ?_
        rintro e w2 ⟨x, a', ok', rfl, e2, l2, hwx, g2, b2⟩
        have hstep := HG.out.step hlt e2 g2
        have HS := Lib.hid hstep
        have HWX := Lib.hid hwx
        have A2 := below_call (below_alloc_on A1 _) b2
        have HX2 := Lib.hid ((HX.out.alloc (.cells zeroS 35)).below b2)
        have HO2 := Lib.hid ((HO.out.alloc (.cells zeroS 35)).kept (row := none) ⟨b2.os, b2.tape, b2.output, b2.size, fun k hk _ => b2.block k hk⟩ (Classical.em _))
        have HB2 := Lib.hid ((box_new wr zeroS 35).below b2)
        clear e2 g2 hstep hwx HG KS
        have p0 := HB2.out.2.1 0
        have fp0 := HB2.out.2.2 0
        have p1 := HB2.out.2.1 1
        have fp1 := HB2.out.2.2 1
        have p2 := HB2.out.2.1 2
        have fp2 := HB2.out.2.2 2
        have p3 := HB2.out.2.1 3
        have fp3 := HB2.out.2.2 3
        have p4 := HB2.out.2.1 4
        have fp4 := HB2.out.2.2 4
        have p5 := HB2.out.2.1 5
        have fp5 := HB2.out.2.2 5
        have p6 := HB2.out.2.1 6
        have fp6 := HB2.out.2.2 6
        have p7 := HB2.out.2.1 7
        have fp7 := HB2.out.2.2 7
        have p8 := HB2.out.2.1 8
        have fp8 := HB2.out.2.2 8
        have q0 := HX2.out.2.1 0
        have fq0 := HX2.out.2.2 0
        have q1 := HX2.out.2.1 1
        have fq1 := HX2.out.2.2 1
        have q2 := HX2.out.2.1 2
        have fq2 := HX2.out.2.2 2
        simp only [zeroS, List.getElem?_toArray, List.getElem?_cons_succ, List.getElem?_cons_zero] at p0 p1 p2 p3 p4 p5 p6 p7 p8 q0 q1 q2
        have lt2 := HB2.out.1
        have lt3 := HX2.out.1
        unfold spV rV
        go_upto_region 7 with fail
        have no1 : (Value.slice A ms.length c).ownBlock ≠ some wr.heap.size := fun e => by have := (HO.out.lt _ e).2; omega
        have no2 : (Value.slice A ms.length c).ownBlock ≠ some w.heap.size := fun e => by have := (HO.out.lt _ e).1; omega
        refine at_world (fun W => Below w.heap.size w W ∧ Box W w.heap.size #[.string ⟨text.toArray⟩, .int .i64 (a' : Nat), .bool ok'] ∧ Box W wr.heap.size (stC x).toArray ∧ W.ownsRow (w.heap.size + 1) 35 9 (.slice A ms.length c) ms.length (ms.flatMap stC))
          ⟨by (repeat (first | (with_reducible exact Below.refl _ _) | (with_reducible assumption) | (with_reducible refine Near.up _ ?_) | (with_reducible refine Below.drew ?_) | (with_reducible refine below_alloc_on ?_ _) | (with_reducible refine below_set_on ?_ (by first | (simp; done) | (simp; omega) | omega) _))), (((((((((((HX2.out.far (by simp; omega) _).far (by simp; omega) _).far (by simp; omega) _).far (by simp; omega) _).far (by simp; omega) _).far (by simp; omega) _).far (by simp; omega) _).far (by simp; omega) _).far (by simp; omega) _).put3 _ _ _)), (((HB2.out.put9 rfl _ _ _ _ _ _ _ _ _).far (by simp; omega) _).far (by simp; omega) _).far (by simp; omega) _,
           wi_own_set (wi_own_set (wi_own_set (wi_own_set (wi_own_set (wi_own_set (wi_own_set (wi_own_set (wi_own_set (wi_own_set (wi_own_set (wi_own_set HO2.out no1 _) no1 _) no1 _) no1 _) no1 _) no1 _) no1 _) no1 _) no1 _) no2 _) no2 _) no2 _⟩ ?_
        rintro W ⟨S1, S2, S3, S4⟩
        have H1 := Lib.hid S1
        have H2 := Lib.hid S2
        have H4 := Lib.hid S4
        have lt4 := S3.1
        have lt5 := S2.1
        clear HX2 HB2 HO2 A2 p0 p1 p2 p3 p4 p5 p6 p7 p8 fp0 fp1 fp2 fp3 fp4 fp5 fp6 fp7 fp8 q0 q1 q2 fq0 fq1 fq2
        have p0 := S3.2.1 0
        have p1 := S3.2.1 1
        have p2 := S3.2.1 2
        have p3 := S3.2.1 3
        have p4 := S3.2.1 4
        have p5 := S3.2.1 5
        have p6 := S3.2.1 6
        have p7 := S3.2.1 7
        have p8 := S3.2.1 8
        simp only [stC, List.getElem?_toArray, List.getElem?_cons_succ, List.getElem?_cons_zero] at p0 p1 p2 p3 p4 p5 p6 p7 p8
        clear S1 S2 S3 S4
        have ML : 140737488355328 ≤ maxLen := by decide
        have hh : (ok' = false ∧ (ok' && decide ((ms ++ [x]).length ≤ 320)) = false) ∨ (ok' = true ∧ ms.length + 1 ≤ 320 ∧ (ok' && decide ((ms ++ [x]).length ≤ 320)) = true) ∨ (ok' = true ∧ ¬ ms.length + 1 ≤ 320 ∧ (ok' && decide ((ms ++ [x]).length ≤ 320)) = false) := by
          have hml : (ms ++ [x]).length = ms.length + 1 := by simp
          rw [hml]
          cases ok'
          · exact .inl ⟨rfl, rfl⟩
          · by_cases h : ms.length + 1 ≤ 320
            · exact .inr (.inl ⟨rfl, h, by rw [decide_eq_true h]; rfl⟩)
            · exact .inr (.inr ⟨rfl, h, by rw [decide_eq_false h]; rfl⟩)
        generalize (ok' && decide ((ms ++ [x]).length ≤ 320)) = zz at *
        rcases hh with ⟨rfl, rfl⟩ | ⟨rfl, hle, rfl⟩ | ⟨rfl, hle, rfl⟩
        · go_wp2_with (at_builtin; refine wpList_append_own _ rfl _ _ 22 rfl (w.heap.size + 1) 35 i0 (.agg #[.float .f64 0, .float .f64 0, .float .f64 0, .float .f64 0, .bool false, .int .i64 0, .bool false, .bool false, .string ⟨#[]⟩]) 9 80 Try.underlying22 hi0 hz0 hz1 hz2 rfl (by decide) _ ms.length _ rfl (H4.out.alloc _) ⟨W.heap.size, 0, none⟩ 1 1 (stC x) rfl rfl (cells_nine _ _ _) (by intro u hu; simp only [stC, List.mem_cons, List.not_mem_nil, or_false] at hu; rcases hu with rfl | rfl | rfl | rfl | rfl | rfl | rfl | rfl | rfl <;> rfl) (by omega) (by omega) (by simp; omega) ?_; intro v' w4 ho' hgr _; have A4 := (H1.out.alloc (by omega) (.cells (stC x).toArray 35)).grown hgr (by simp; omega) (fun q hq => by have := (H4.out.lt q hq).1; omega); have X4 := (H2.out.alloc (.cells (stC x).toArray 35)).keeps hgr (fun e => by have := (H4.out.lt _ e.symm).1; omega); have HO4 := Lib.hid ho'; obtain ⟨A', c', rfl, _⟩ := row_form ho'; clear ho' hgr; have y0 := X4.2.1 0; have y1 := X4.2.1 1; have y2 := X4.2.1 2; have fy2 := X4.2.2 2; simp only [List.getElem?_toArray, List.getElem?_cons_succ, List.getElem?_cons_zero] at y0 y1 y2; have HX4 := Lib.hid X4; clear X4)
          have hml : (ms ++ [x]).length = ms.length + 1 := by simp
          have hfl : (ms ++ [x]).flatMap stC = ms.flatMap stC ++ stC x := by simp
          exact ⟨⟨ms ++ [x], a', false, by rw [hml]; omega, l2, HS.out, fun z hz => by rw [List.mem_append, List.mem_singleton] at hz; rcases hz with hz | rfl; exact HW.out z hz; exact HWX.out, below_set_on A4 (by simp) _, HX4.out.put2 _, by rw [hml, hfl]; exact wi_own_set HO4.out (fun e => by have := (HO4.out.lt _ e).1; omega) _⟩, by simp [lenV]; omega⟩
        · go_wp2_with (at_builtin; refine wpList_append_own _ rfl _ _ 22 rfl (w.heap.size + 1) 35 i0 (.agg #[.float .f64 0, .float .f64 0, .float .f64 0, .float .f64 0, .bool false, .int .i64 0, .bool false, .bool false, .string ⟨#[]⟩]) 9 80 Try.underlying22 hi0 hz0 hz1 hz2 rfl (by decide) _ ms.length _ rfl (H4.out.alloc _) ⟨W.heap.size, 0, none⟩ 1 1 (stC x) rfl rfl (cells_nine _ _ _) (by intro u hu; simp only [stC, List.mem_cons, List.not_mem_nil, or_false] at hu; rcases hu with rfl | rfl | rfl | rfl | rfl | rfl | rfl | rfl | rfl <;> rfl) (by omega) (by omega) (by simp; omega) ?_; intro v' w4 ho' hgr _; have A4 := (H1.out.alloc (by omega) (.cells (stC x).toArray 35)).grown hgr (by simp; omega) (fun q hq => by have := (H4.out.lt q hq).1; omega); have X4 := (H2.out.alloc (.cells (stC x).toArray 35)).keeps hgr (fun e => by have := (H4.out.lt _ e.symm).1; omega); have HO4 := Lib.hid ho'; obtain ⟨A', c', rfl, _⟩ := row_form ho'; clear ho' hgr; have y0 := X4.2.1 0; have y1 := X4.2.1 1; have y2 := X4.2.1 2; have fy2 := X4.2.2 2; simp only [List.getElem?_toArray, List.getElem?_cons_succ, List.getElem?_cons_zero] at y0 y1 y2; have HX4 := Lib.hid X4; clear X4)
          have hml : (ms ++ [x]).length = ms.length + 1 := by simp
          have hfl : (ms ++ [x]).flatMap stC = ms.flatMap stC ++ stC x := by simp
          rw [show decide (((ms.length : Nat) : Int) + 1 ≤ 320) = true from decide_eq_true (by omega)]
          exact ⟨⟨ms ++ [x], a', true, by rw [hml]; omega, l2, HS.out, fun z hz => by rw [List.mem_append, List.mem_singleton] at hz; rcases hz with hz | rfl; exact HW.out z hz; exact HWX.out, below_set_on A4 (by simp) _, HX4.out.put2 _, by rw [hml, hfl]; exact wi_own_set HO4.out (fun e => by have := (HO4.out.lt _ e).1; omega) _⟩, by simp [lenV]; omega⟩
        · go_wp2_with (at_builtin; refine wpList_append_own _ rfl _ _ 22 rfl (w.heap.size + 1) 35 i0 (.agg #[.float .f64 0, .float .f64 0, .float .f64 0, .float .f64 0, .bool false, .int .i64 0, .bool false, .bool false, .string ⟨#[]⟩]) 9 80 Try.underlying22 hi0 hz0 hz1 hz2 rfl (by decide) _ ms.length _ rfl (H4.out.alloc _) ⟨W.heap.size, 0, none⟩ 1 1 (stC x) rfl rfl (cells_nine _ _ _) (by intro u hu; simp only [stC, List.mem_cons, List.not_mem_nil, or_false] at hu; rcases hu with rfl | rfl | rfl | rfl | rfl | rfl | rfl | rfl | rfl <;> rfl) (by omega) (by omega) (by simp; omega) ?_; intro v' w4 ho' hgr _; have A4 := (H1.out.alloc (by omega) (.cells (stC x).toArray 35)).grown hgr (by simp; omega) (fun q hq => by have := (H4.out.lt q hq).1; omega); have X4 := (H2.out.alloc (.cells (stC x).toArray 35)).keeps hgr (fun e => by have := (H4.out.lt _ e.symm).1; omega); have HO4 := Lib.hid ho'; obtain ⟨A', c', rfl, _⟩ := row_form ho'; clear ho' hgr; have y0 := X4.2.1 0; have y1 := X4.2.1 1; have y2 := X4.2.1 2; have fy2 := X4.2.2 2; simp only [List.getElem?_toArray, List.getElem?_cons_succ, List.getElem?_cons_zero] at y0 y1 y2; have HX4 := Lib.hid X4; clear X4)
          have hml : (ms ++ [x]).length = ms.length + 1 := by simp
          have hfl : (ms ++ [x]).flatMap stC = ms.flatMap stC ++ stC x := by simp
          rw [show decide (((ms.length : Nat) : Int) + 1 ≤ 320) = false from decide_eq_false (by omega)]
          exact ⟨⟨ms ++ [x], a', false, by rw [hml]; omega, l2, HS.out, fun z hz => by rw [List.mem_append, List.mem_singleton] at hz; rcases hz with hz | rfl; exact HW.out z hz; exact HWX.out, below_set_on A4 (by simp) _, HX4.out.put2 _, by rw [hml, hfl]; exact wi_own_set HO4.out (fun e => by have := (HO4.out.lt _ e).1; omega) _⟩, by simp [lenV]; omega⟩
      · have HN := Lib.hid (HG.out.done hlt)
        have HST := Lib.hid (stp_row HO.out rfl HW.out)
        go_wp2_with (fail)
        all_goals go_ret2
        all_goals exact ⟨A, ms.length, c, _, true, rfl, HST.out, hnc, hm, by rw [spL_getD]; exact HN.out, A1⟩
end Go.Proofs.Yteeiebopfjlffaa
