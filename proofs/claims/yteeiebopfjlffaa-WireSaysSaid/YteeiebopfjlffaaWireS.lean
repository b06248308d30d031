/- Steps and scripts as bytes: there and back. -/
import Derived.Test.YteeiebopfjlffaaWireM
namespace Go.Proofs.Yteeiebopfjlffaa
set_option maxRecDepth 100000
open Go.RowKit Ieee
set_option linter.unusedVariables false
set_option linter.unusedSimpArgs false

def rwL (r : Rw) : List UInt8 := reL r.adc ++ (reL r.tilt ++ (reL r.bat ++ (reL r.enc ++ [UInt8.ofNat (trN r.door r.wr), UInt8.ofNat r.key.toNat])))
def nmR (r : Rw) : Rw := { adc := nm r.adc, tilt := nm r.tilt, bat := nm r.bat, enc := nm r.enc, door := r.door, key := r.key, wr := r.wr }
theorem wf_noR : wfR noR := by unfold wfR noR; simp only; omega
theorem tr_lt (d w : Bool) : trN d w < 4 := by cases d <;> cases w <;> decide
theorem rw_of (r : Rw) (h : wfR r) (k0 : 0 ≤ r.key) (k1 : r.key < 256) (t : List UInt8) : rwV (rwL r ++ t) = nmR r ∧ rwR (rwL r ++ t) = t ∧ rwW (rwL r ++ t) = false := by
  obtain ⟨adc, tilt, bat, enc, door, key, wr⟩ := r
  obtain ⟨h1, h2, h3, h4⟩ := h
  simp only at h1 h2 h3 h4 k0 k1
  obtain ⟨N, rfl⟩ := Int.eq_ofNat_of_zero_le k0
  unfold rwV rwR rwW rwL nmR
  simp only [List.append_assoc, List.cons_append, List.nil_append, Int.toNat_natCast]
  obtain ⟨a1, a2, a3⟩ := re_of adc h1 (reL tilt ++ (reL bat ++ (reL enc ++ (UInt8.ofNat (trN door wr) :: UInt8.ofNat N :: t))))
  obtain ⟨b1, b2, b3⟩ := re_of tilt h2 (reL bat ++ (reL enc ++ (UInt8.ofNat (trN door wr) :: UInt8.ofNat N :: t)))
  obtain ⟨c1, c2, c3⟩ := re_of bat h3 (reL enc ++ (UInt8.ofNat (trN door wr) :: UInt8.ofNat N :: t))
  obtain ⟨d1, d2, d3⟩ := re_of enc h4 (UInt8.ofNat (trN door wr) :: UInt8.ofNat N :: t)
  have ht := tr_lt door wr
  obtain ⟨e1, e2, e3⟩ := rd_one (trN door wr) (UInt8.ofNat N :: t) (by omega)
  obtain ⟨f1, f2, f3⟩ := rd_one N t (by omega)
  simp only [a1, a2, a3, b1, b2, b3, c1, c2, c3, d1, d2, d3, e1, e2, e3, f1, f2, f3]
  refine ⟨?_, trivial, ?_⟩
  · cases door <;> cases wr <;> rfl
  · simp; omega
theorem rw_back (s : List UInt8) (h : rwW s = false) : s = rwL (rwV s) ++ rwR s ∧ wfR (rwV s) ∧ nmR (rwV s) = rwV s ∧ 0 ≤ (rwV s).key ∧ (rwV s).key < 256 := by
  unfold rwW at h
  simp only [Bool.or_eq_false_iff, decide_eq_false_iff_not, Nat.not_lt] at h
  obtain ⟨⟨⟨⟨⟨⟨w1, w2⟩, w3⟩, w4⟩, w5⟩, w6⟩, w7⟩ := h
  obtain ⟨a1, a2, a3⟩ := re_back s w1
  obtain ⟨b1, b2, b3⟩ := re_back (reR s) w2
  obtain ⟨c1, c2, c3⟩ := re_back (reR (reR s)) w3
  obtain ⟨d1, d2, d3⟩ := re_back (reR (reR (reR s))) w4
  obtain ⟨e1, e2⟩ := rd_back1 (reR (reR (reR (reR s)))) w5
  obtain ⟨f1, f2⟩ := rd_back1 (rdR (reR (reR (reR (reR s)))) 1) w7
  refine ⟨?_, by unfold wfR rwV; simp only; exact ⟨a2, b2, c2, d2⟩, ?_, ?_, ?_⟩
  · unfold rwL rwV rwR
    simp only [Int.toNat_natCast]
    have et : trN (rdV (reR (reR (reR (reR s)))) 1 % 2 == 1) (rdV (reR (reR (reR (reR s)))) 1 / 2 % 2 == 1) = rdV (reR (reR (reR (reR s)))) 1 := by
      generalize rdV (reR (reR (reR (reR s)))) 1 = k at w6
      rcases (show k = 0 ∨ k = 1 ∨ k = 2 ∨ k = 3 by omega) with c | c | c | c <;> subst c <;> rfl
    rw [et]
    simp only [List.append_assoc, List.cons_append, List.nil_append]
    rw [← f1, ← e1, ← d1, ← c1, ← b1]
    exact a1
  · unfold nmR rwV
    simp only [a3, b3, c3, d3]
  · unfold rwV
    simp only
    exact Int.natCast_nonneg _
  · unfold rwV
    simp only
    omega

theorem st_of (x : Sp) (h : wfR x.raw) (hb : stB x = true) (t : List UInt8) : stV (stL x ++ t) = nrm x ∧ stR (stL x ++ t) = t ∧ stW (stL x ++ t) = false := by
  obtain ⟨raw, cut, torn⟩ := x
  unfold stB at hb
  unfold stV stR stW stL nrm
  simp only at h hb ⊢
  cases cut with
  | true =>
    simp only [if_true, decide_eq_true_eq] at hb
    simp only [if_true, List.cons_append]
    have hl : torn.data.toList.length = torn.size := Array.length_toList
    obtain ⟨a1, a2, a3⟩ := rd_one 1 (UInt8.ofNat torn.size :: (torn.data.toList ++ t)) (by decide)
    obtain ⟨b1, b2, b3⟩ := rd_one torn.size (torn.data.toList ++ t) (by omega)
    have e : (1 : UInt8) = UInt8.ofNat 1 := rfl
    rw [e, a1, a2, a3]
    have hB : tnB (UInt8.ofNat torn.size :: (torn.data.toList ++ t)) = false := by
      unfold tnB
      rw [b1, b2, List.length_append, hl]
      simp; omega
    unfold tnV tnR tnW
    rw [hB, b1, b2, b3]
    have hx : torn = ⟨torn.data.toList.toArray⟩ := by cases torn; simp
    simp [List.take_left' hl, List.drop_left' hl]
  | false =>
    simp only [Bool.false_eq_true, if_false, decide_eq_true_eq] at hb
    simp only [Bool.false_eq_true, if_false]
    obtain ⟨r1, r2, r3⟩ := rw_of raw h hb.1 hb.2 t
    obtain ⟨a1, a2, a3⟩ := rd_one 0 (rwL raw ++ t) (by decide)
    have e : tkL raw ++ t = UInt8.ofNat 0 :: (rwL raw ++ t) := rfl
    rw [e, a1, a2, a3, r1, r2, r3]
    exact ⟨rfl, rfl, rfl⟩
theorem stB_raw (r : Rw) (b : ByteArray) : stB ⟨r, false, b⟩ = decide (0 ≤ r.key ∧ r.key < 256) := rfl
theorem stL_raw (r : Rw) (b : ByteArray) : stL ⟨r, false, b⟩ = UInt8.ofNat 0 :: rwL r := rfl
theorem nrm_raw (r : Rw) (b : ByteArray) : nrm ⟨r, false, b⟩ = ⟨nmR r, false, ⟨#[]⟩⟩ := rfl
theorem st_back (s : List UInt8) (h : stW s = false) : s = stL (stV s) ++ stR s ∧ stB (stV s) = true ∧ wfR (stV s).raw ∧ nrm (stV s) = stV s := by
  unfold stW at h
  rw [Bool.or_eq_false_iff] at h
  obtain ⟨h1, h2⟩ := h
  obtain ⟨e1, l1⟩ := rd_back1 s h1
  unfold stV stR
  by_cases k0 : rdV s 1 = 0
  · rw [if_pos k0] at h2
    rw [if_pos k0, if_pos k0]
    obtain ⟨a1, a2, a3, a4, a5⟩ := rw_back _ h2
    refine ⟨?_, ?_, a2, ?_⟩
    · rw [k0] at e1
      rw [stL_raw, List.cons_append, ← a1]
      exact e1
    · rw [stB_raw]
      exact decide_eq_true ⟨a4, a5⟩
    · rw [nrm_raw, a3]
  · rw [if_neg k0] at h2
    rw [if_neg k0, if_neg k0]
    by_cases k1 : rdV s 1 = 1
    · rw [if_pos k1] at h2
      rw [if_pos k1, if_pos k1]
      rw [k1] at e1
      unfold tnW at h2
      rw [Bool.or_eq_false_iff] at h2
      obtain ⟨f1, f2⟩ := h2
      obtain ⟨g1, g2⟩ := rd_back1 _ f1
      have hv : tnV (rdR s 1) = ⟨((rdR (rdR s 1) 1).take (rdV (rdR s 1) 1)).toArray⟩ := by unfold tnV; rw [f2]; rfl
      have hr : tnR (rdR s 1) = (rdR (rdR s 1) 1).drop (rdV (rdR s 1) 1) := by unfold tnR; rw [f2]; rfl
      unfold tnB at f2
      simp only [Bool.or_eq_false_iff, decide_eq_false_iff_not, Nat.not_lt] at f2
      have hs : (⟨((rdR (rdR s 1) 1).take (rdV (rdR s 1) 1)).toArray⟩ : ByteArray).size = rdV (rdR s 1) 1 := by
        show (((rdR (rdR s 1) 1).take (rdV (rdR s 1) 1)).toArray).size = _
        rw [List.size_toArray, List.length_take]; omega
      refine ⟨?_, ?_, wf_noR, rfl⟩
      · unfold stL
        simp only [if_true]
        rw [hv, hr, hs]
        simp only [List.cons_append]
        rw [List.take_append_drop, ← g1]
        exact e1
      · unfold stB
        simp only [if_true, decide_eq_true_eq]
        rw [hv, hs]
        exact f2.1
    · rw [if_neg k1] at h2
      exact absurd h2 (by decide)

/-- Scripts. -/
def enL (l : List Sp) : List UInt8 := l.flatMap stL
def okB (l : List Sp) : Bool := l.all stB
def wfL (l : List Sp) : Prop := ∀ x ∈ l, wfR x.raw
theorem enL_cons (x : Sp) (l : List Sp) : enL (x :: l) = stL x ++ enL l := rfl
theorem enL_snoc (x : Sp) (l : List Sp) : enL (l ++ [x]) = enL l ++ stL x := by simp [enL]
theorem stL_ne (x : Sp) : stL x ≠ [] := by unfold stL tkL; split <;> simp
theorem en_nil {l : List Sp} (h : enL l = []) : l = [] := by
  cases l with
  | nil => rfl
  | cons x l => rw [enL_cons, List.append_eq_nil_iff] at h; exact absurd h.1 (stL_ne x)
/-- Two scripts told in the same bytes are the same, but for what is no number. -/
theorem en_same : ∀ (a b : List Sp), wfL a → wfL b → okB a = true → okB b = true → enL a = enL b → a.map nrm = b.map nrm
  | [], b, _, _, _, _, e => by rw [en_nil e.symm]
  | x :: a, [], _, _, _, _, e => by rw [enL_cons, show enL [] = [] from rfl, List.append_eq_nil_iff] at e; exact absurd e.1 (stL_ne x)
  | x :: a, y :: b, wa, wb, oa, ob, e => by
    rw [okB, List.all_cons, Bool.and_eq_true] at oa ob
    rw [enL_cons, enL_cons] at e
    obtain ⟨p1, p2, _⟩ := st_of x (wa x (by simp)) oa.1 (enL a)
    obtain ⟨q1, q2, _⟩ := st_of y (wb y (by simp)) ob.1 (enL b)
    rw [e] at p1 p2
    rw [List.map_cons, List.map_cons, p1.symm.trans q1, en_same a b (fun z hz => wa z (by simp [hz])) (fun z hz => wb z (by simp [hz])) oa.2 ob.2 (p2.symm.trans q2)]

/-- How far a reader of bytes has come. -/
structure Gone (text : List UInt8) (ms : List Sp) (rest : List UInt8) (wrong : Bool) : Prop where
  wf : wfL ms
  fit : wrong = false → okB ms = true ∧ text = enL ms ++ rest
  all : ∀ ls, wfL ls → okB ls = true → enL ls = text → wrong = false ∧ ∃ l1 l2, ls = l1 ++ l2 ∧ l1.length = ms.length ∧ enL l2 = rest
theorem Gone.start (text : List UInt8) : Gone text [] text false :=
  ⟨fun x h => by simp at h, fun _ => ⟨rfl, rfl⟩, fun ls _ _ he => ⟨rfl, [], ls, rfl, rfl, he⟩⟩
theorem nanw_lt : NANW < 18446744073709551616 := by unfold NANW; omega
theorem plX_lt (s : List UInt8) : plX s < 18446744073709551616 := by
  unfold plX
  have h1 := rdV_lt (rdR s 1) 4
  have h2 := rdV_lt (rdR (rdR s 1) 4) 4
  generalize rdV (rdR s 1) 4 = a at *
  generalize rdV (rdR (rdR s 1) 4) 4 = b at *
  have e : 256 ^ 4 = 4294967296 := by decide
  rw [e] at h1 h2
  omega
theorem reV_lt (s : List UInt8) : reV s < 18446744073709551616 := by
  have h3 := plX_lt s
  have h4 := nanw_lt
  unfold reV
  generalize rdV s 1 = k
  generalize plX s = p at *
  generalize NANW = m at *
  generalize kdV p = q
  split <;> (try split) <;> (try split) <;> (try split) <;> (try split) <;> (try split) <;> (try split) <;> omega
theorem rwV_wf (s : List UInt8) : wfR (rwV s) := by
  unfold wfR rwV
  simp only
  exact ⟨reV_lt _, reV_lt _, reV_lt _, reV_lt _⟩
theorem stV_wf (s : List UInt8) : wfR (stV s).raw := by
  unfold stV
  by_cases h0 : rdV s 1 = 0
  · rw [if_pos h0]; exact rwV_wf _
  · rw [if_neg h0]
    by_cases h1 : rdV s 1 = 1
    · rw [if_pos h1]; exact wf_noR
    · rw [if_neg h1]; exact wf_noR
theorem Gone.next {text ms rest} (h : Gone text ms rest false) (hr : rest ≠ []) : Gone text (ms ++ [stV rest]) (stR rest) (stW rest) := by
  refine ⟨?_, fun hw => ?_, fun ls wl ol he => ?_⟩
  · intro x hx
    rw [List.mem_append, List.mem_singleton] at hx
    rcases hx with hx | rfl
    · exact h.wf x hx
    · exact stV_wf rest
  · obtain ⟨o, e⟩ := h.fit rfl
    obtain ⟨b1, b2, _, _⟩ := st_back rest hw
    refine ⟨?_, ?_⟩
    · unfold okB at o ⊢; rw [List.all_append, o]; simp [b2]
    · rw [enL_snoc, List.append_assoc, ← b1]; exact e
  · obtain ⟨_, l1, l2, e1, e2, e3⟩ := h.all ls wl ol he
    cases l2 with
    | nil => exact absurd e3.symm hr
    | cons x l2 =>
      rw [enL_cons] at e3
      have wx : wfR x.raw := wl x (by rw [e1]; simp)
      have ox : stB x = true := by
        unfold okB at ol
        rw [e1, List.all_append, List.all_cons] at ol
        simp only [Bool.and_eq_true] at ol
        exact ol.2.1
      obtain ⟨p1, p2, p3⟩ := st_of x wx ox (enL l2)
      rw [e3] at p1 p2 p3
      exact ⟨p3, l1 ++ [x], l2, by rw [e1]; simp, by simp [e2], p2.symm⟩
theorem Gone.done {text ms} (h : Gone text ms [] false) : okB ms = true ∧ enL ms = text := by
  obtain ⟨o, e⟩ := h.fit rfl
  exact ⟨o, by rw [e, List.append_nil]⟩
theorem Gone.no {text ms rest} (h : Gone text ms rest true) : ∀ ls, wfL ls → okB ls = true → enL ls ≠ text := fun ls wl ol he => by simpa using (h.all ls wl ol he).1
theorem Gone.far {text ms rest w} (h : Gone text ms rest w) (hl : 320 < ms.length) : ∀ ls, wfL ls → okB ls = true → ls.length ≤ 320 → enL ls ≠ text := fun ls wl ol hn he => by
  obtain ⟨_, l1, l2, e1, e2, _⟩ := h.all ls wl ol he
  rw [e1, List.length_append] at hn
  omega
end Go.Proofs.Yteeiebopfjlffaa
