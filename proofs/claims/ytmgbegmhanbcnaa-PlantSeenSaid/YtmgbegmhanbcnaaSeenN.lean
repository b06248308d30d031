/- An eye that sees drops which are eight ticks apart, as mathematics. -/
import Derived.Test.YtmgbegmhanbcnaaGoesN
namespace Go.Proofs.Ytmgbegmhanbcnaa
set_option maxRecDepth 100000
open Go.RowKit
set_option linter.unusedVariables false
set_option linter.unusedSimpArgs false

theorem gz_step {e : Gz} {a : Int} {sh on : Bool} {rn wt : Int} (hB : eyB e.bg e.ba a = 192000) (h1 : e.sh = sh) (h2 : e.on = on) (h3 : e.rn = rn) (h4 : e.wt = wt)
    {S O D : Bool} {R W : Int} (q0 : shdB 3000 a sh = S) (q1 : eyN 192000 a S = 192000) (q2 : dbO on rn S = O) (q3 : dbR on rn S = R) (q4 : rfV wt (O && !on) = W) (q5 : rfB wt (O && !on) = D) :
    (gzN e a).bg = true ∧ (gzN e a).ba = 192000 ∧ (gzN e a).sh = S ∧ (gzN e a).on = O ∧ (gzN e a).rn = R ∧ (gzN e a).wt = W ∧ gzD e a = D := by
  subst h1 h2 h3 h4
  have hS : gzS e a = S := by
    unfold gzS eyS
    rw [hB]
    exact q0
  have hE : gzE e a = (O && !e.on) := by unfold gzE; rw [hS, q2]
  refine ⟨by exact rfl, ?_, ?_, ?_, ?_, ?_, ?_⟩
  · rw [gzN_ba, hB, hS]; exact q1
  · rw [gzN_sh]; exact hS
  · rw [gzN_on, hS]; exact q2
  · show dbR e.on e.rn (gzS e a) = R
    rw [hS]; exact q3
  · show rfV e.wt (gzE e a) = W
    rw [hE]; exact q4
  · show rfB e.wt (gzE e a) = D
    rw [hE]; exact q5

/-- An eye T ticks behind the fall of a drop. -/
structure St (e : Gz) (T : Nat) : Prop where
  ba : e.bg = true → e.ba = 192000
  bg : e.bg = false → 6 ≤ T
  sh : e.sh = decide (T ≤ 3)
  on : e.on = decide (2 ≤ T ∧ T ≤ 4)
  rn : e.rn = if T = 1 ∨ T = 4 then 1 else 0
  wt : e.wt = if 2 ≤ T ∧ T ≤ 5 then 6 - (T : Int) else 0
theorem St.base {e : Gz} {T : Nat} (h : St e T) {a : Int} (ha : 3 ≤ T → a = 3000) : eyB e.bg e.ba a = 192000 := by
  cases hb : e.bg
  · have := h.bg hb
    rw [ha (by omega)]
    unfold eyB
    rw [if_neg (by simp)]
    decide
  · unfold eyB
    rw [if_pos rfl]
    exact h.ba hb
theorem st_of {e : Gz} {T : Nat} (h0 : e.bg = true) (h1 : e.ba = 192000) (h2 : e.sh = decide (T ≤ 3)) (h3 : e.on = decide (2 ≤ T ∧ T ≤ 4)) (h4 : e.rn = if T = 1 ∨ T = 4 then 1 else 0) (h5 : e.wt = if 2 ≤ T ∧ T ≤ 5 then 6 - (T : Int) else 0) : St e T :=
  ⟨fun _ => h1, fun h => absurd (h0.symm.trans h) (by decide), h2, h3, h4, h5⟩
theorem st_next {e : Gz} {T : Nat} {a : Int} (h : St e T) (t1 : 1 ≤ T) (ha : a = if T ≤ 2 then 2000 else 3000) : St (gzN e a) (T + 1) ∧ gzD e a = decide (T = 1) := by
  have hB := h.base (a := a) (fun h => by rw [ha, if_neg (by omega)])
  by_cases h6 : 6 ≤ T
  · rw [if_neg (by omega)] at ha
    subst ha
    obtain ⟨p0, p1, p2, p3, p4, p5, p6⟩ := gz_step (sh := false) (on := false) (rn := 0) (wt := 0) (S := false) (O := false) (R := 0) (W := 0) (D := false) hB (h.sh.trans (decide_eq_false (by omega))) (h.on.trans (decide_eq_false (by omega))) (h.rn.trans (if_neg (by omega))) (h.wt.trans (if_neg (by omega))) (by decide) (by decide) (by decide) (by decide) (by decide) (by decide)
    exact ⟨st_of p0 p1 (p2.trans (decide_eq_false (by omega)).symm) (p3.trans (decide_eq_false (by omega)).symm) (p4.trans (if_neg (by omega)).symm) (p5.trans (if_neg (by omega)).symm), p6.trans (decide_eq_false (by omega)).symm⟩
  · rcases (by omega : T = 1 ∨ T = 2 ∨ T = 3 ∨ T = 4 ∨ T = 5) with rfl | rfl | rfl | rfl | rfl
    · subst ha
      obtain ⟨p0, p1, p2, p3, p4, p5, p6⟩ := gz_step (S := true) (O := true) (R := 0) (W := 4) (D := true) hB h.sh h.on h.rn h.wt (by decide) (by decide) (by decide) (by decide) (by decide) (by decide)
      exact ⟨st_of p0 p1 (p2.trans (by decide)) (p3.trans (by decide)) (p4.trans (by decide)) (p5.trans (by decide)), p6.trans (by decide)⟩
    · subst ha
      obtain ⟨p0, p1, p2, p3, p4, p5, p6⟩ := gz_step (S := true) (O := true) (R := 0) (W := 3) (D := false) hB h.sh h.on h.rn h.wt (by decide) (by decide) (by decide) (by decide) (by decide) (by decide)
      exact ⟨st_of p0 p1 (p2.trans (by decide)) (p3.trans (by decide)) (p4.trans (by decide)) (p5.trans (by decide)), p6.trans (by decide)⟩
    · subst ha
      obtain ⟨p0, p1, p2, p3, p4, p5, p6⟩ := gz_step (S := false) (O := true) (R := 1) (W := 2) (D := false) hB h.sh h.on h.rn h.wt (by decide) (by decide) (by decide) (by decide) (by decide) (by decide)
      exact ⟨st_of p0 p1 (p2.trans (by decide)) (p3.trans (by decide)) (p4.trans (by decide)) (p5.trans (by decide)), p6.trans (by decide)⟩
    · subst ha
      obtain ⟨p0, p1, p2, p3, p4, p5, p6⟩ := gz_step (S := false) (O := false) (R := 0) (W := 1) (D := false) hB h.sh h.on h.rn h.wt (by decide) (by decide) (by decide) (by decide) (by decide) (by decide)
      exact ⟨st_of p0 p1 (p2.trans (by decide)) (p3.trans (by decide)) (p4.trans (by decide)) (p5.trans (by decide)), p6.trans (by decide)⟩
    · subst ha
      obtain ⟨p0, p1, p2, p3, p4, p5, p6⟩ := gz_step (S := false) (O := false) (R := 0) (W := 0) (D := false) hB h.sh h.on h.rn h.wt (by decide) (by decide) (by decide) (by decide) (by decide) (by decide)
      exact ⟨st_of p0 p1 (p2.trans (by decide)) (p3.trans (by decide)) (p4.trans (by decide)) (p5.trans (by decide)), p6.trans (by decide)⟩
theorem st_fall {e : Gz} {T : Nat} (h : St e T) (t8 : 8 ≤ T) (hb : e.bg = true) : St (gzN e 2000) 1 ∧ gzD e 2000 = false := by
  have hB : eyB e.bg e.ba 2000 = 192000 := by
    unfold eyB
    rw [if_pos hb]
    exact h.ba hb
  obtain ⟨p0, p1, p2, p3, p4, p5, p6⟩ := gz_step (sh := false) (on := false) (rn := 0) (wt := 0) (S := true) (O := false) (R := 1) (W := 0) (D := false) hB (h.sh.trans (decide_eq_false (by omega))) (h.on.trans (decide_eq_false (by omega))) (h.rn.trans (if_neg (by omega))) (h.wt.trans (if_neg (by omega))) (by decide) (by decide) (by decide) (by decide) (by decide) (by decide)
  exact ⟨st_of p0 p1 (p2.trans (by decide)) (p3.trans (by decide)) (p4.trans (by decide)) (p5.trans (by decide)), p6⟩

/-- The lights of j ticks, and the drops that they show, or are to show. -/
structure Seen (L FL : List Int) (j n T : Nat) : Prop where
  len : L.length = j
  st : St (gzAt L j) T
  t1 : 1 ≤ T
  fl : FL = if T = 1 ∧ j < n then dropsL L j ++ [(j : Int)] else dropsL L j
theorem Seen.start (n : Nat) : Seen [] [] 0 n 8 :=
  ⟨rfl, ⟨fun h => absurd h (show ¬ gz0.bg = true by decide), fun _ => by omega, by decide, by decide, by decide, by decide⟩, by omega, by rw [if_neg (by omega)]; rfl⟩
theorem getD_last {L : List Int} {a : Int} : (L ++ [a]).getD L.length 0 = a := by simp [List.getD]
theorem Seen.next {L FL : List Int} {j n T : Nat} {a : Int} (h : Seen L FL j n T) (hj : j < n) (ha : a = if T ≤ 2 then 2000 else 3000) : Seen (L ++ [a]) FL (j + 1) n (T + 1) := by
  obtain ⟨hl, hs, t1, hf⟩ := h
  obtain ⟨n1, n2⟩ := st_next hs t1 ha
  have e1 : gzAt (L ++ [a]) j = gzAt L j := gz_app j (by omega)
  have e2 : (L ++ [a]).getD j 0 = a := by rw [← hl]; exact getD_last
  have e3 : dropsL (L ++ [a]) j = dropsL L j := dropsL_app j (by omega)
  refine ⟨by simp [hl], ?_, by omega, ?_⟩
  · show St (gzN (gzAt (L ++ [a]) j) ((L ++ [a]).getD j 0)) (T + 1)
    rw [e1, e2]; exact n1
  · rw [if_neg (by omega), hf]
    by_cases ht : T = 1
    · rw [if_pos ⟨ht, hj⟩, drops_yes (by rw [e1, e2, n2]; exact decide_eq_true ht), e3]
    · rw [if_neg (by omega), drops_no (by rw [e1, e2, n2]; exact decide_eq_false ht), e3]
theorem Seen.fall {L FL : List Int} {j n T : Nat} {a : Int} (h : Seen L FL j n T) (hj : 0 < j) (t8 : 8 ≤ T) (ha : a = 2000) : Seen (L ++ [a]) (if j + 1 < n then FL ++ [((j + 1 : Nat) : Int)] else FL) (j + 1) n 1 := by
  obtain ⟨hl, hs, t1, hf⟩ := h
  obtain ⟨n1, n2⟩ := st_fall hs t8 (by rw [gz_bg]; exact decide_eq_true hj)
  rw [← ha] at n1 n2
  clear ha
  have e1 : gzAt (L ++ [a]) j = gzAt L j := gz_app j (by omega)
  have e2 : (L ++ [a]).getD j 0 = a := by rw [← hl]; exact getD_last
  have e3 : dropsL (L ++ [a]) j = dropsL L j := dropsL_app j (by omega)
  have e4 : dropsL (L ++ [a]) (j + 1) = dropsL L j := by rw [drops_no (by rw [e1, e2, n2]), e3]
  refine ⟨by simp [hl], ?_, by omega, ?_⟩
  · show St (gzN (gzAt (L ++ [a]) j) ((L ++ [a]).getD j 0)) 1
    rw [e1, e2]; exact n1
  · have hf2 : FL = dropsL L j := hf.trans (if_neg (by omega))
    rw [e4, hf2]
    by_cases hjn : j + 1 < n
    · rw [if_pos hjn, if_pos ⟨rfl, hjn⟩]
    · rw [if_neg hjn, if_neg (by omega)]
theorem Seen.done {L FL : List Int} {n T : Nat} (h : Seen L FL n n T) : FL = dropsL L n := by rw [h.fl, if_neg (by omega)]
end Go.Proofs.Ytmgbegmhanbcnaa
