/- A formula, or two, and a part behind: what that is; the law's 'with' of one and of two; whether such a one is so. -/
import Derived.Test.YtmemhlhjkpijpaaWith
namespace Go.Proofs.Ytmemhlhjkpijpaa
open Go.RowKit
set_option linter.unusedVariables false
set_option linter.unusedSimpArgs false
set_option maxRecDepth 100000
attribute [local go_sem] cell_set_ite Near.cell Near.frozen

theorem tmJ_lo {ts us : Nat → Tm} {n i : Nat} (h : i < n) : tmJ ts us n i = ts i := if_pos h
theorem tmJ_at {ts us : Nat → Tm} {n i : Nat} : tmJ ts us n (n + i) = us i := by
  unfold tmJ
  rw [if_neg (by omega), show n + i - n = i by omega]
theorem rt_one_more {ts : Nat → Tm} {n : Nat} {t : Tm} (h : rtB ts n = true) (hm : myB t = true) (h1 : ndN t.op = 1) (hn : n < 40) :
    rtB (tmJ ts (fun _ => t) n) (n + 1) = true ∧ mnF (tmJ ts (fun _ => t) n) (n + 1) = unaM t (mnF ts n) := by
  obtain ⟨_, ho, hr⟩ := rt_parts h
  have e0 : tmJ ts (fun _ => t) n n = t := tmJ_at (i := 0)
  have hlo : ∀ i, i < n → tmJ ts (fun _ => t) n i = ts i := fun i hi => tmJ_lo hi
  have o1 := (ok_congr hlo).trans ho
  have r1 := (rd_congr hlo).trans hr
  have hrt : rtB (tmJ ts (fun _ => t) n) (n + 1) = true := by
    refine rt_of (by omega) ?_ ?_
    · show (okB _ n && (myB (tmJ ts (fun _ => t) n n) && decide (ndN (tmJ ts (fun _ => t) n n).op ≤ rdN _ n))) = true
      rw [o1, e0, hm, r1, h1]; rfl
    · show rdN _ n + 1 - ndN (tmJ ts (fun _ => t) n n).op = 1
      rw [r1, e0, h1]
  refine ⟨hrt, ?_⟩
  have := (mn_una hrt (by rw [e0]; exact h1)).2
  rw [this, e0, mn_congr hlo]
theorem rt_two_more {ts us : Nat → Tm} {n m : Nat} {t : Tm} (h : rtB ts n = true) (g : rtB us m = true) (hm : myB t = true) (h2 : ndN t.op = 2) (hn : n + m < 40) :
    rtB (tmJ (tmJ ts us n) (fun _ => t) (n + m)) (n + m + 1) = true ∧ mnF (tmJ (tmJ ts us n) (fun _ => t) (n + m)) (n + m + 1) = binM t.op (mnF ts n) (mnF us m) := by
  obtain ⟨_, ho, hr⟩ := rt_parts h
  obtain ⟨_, go, gr⟩ := rt_parts g
  obtain ⟨J, hJ⟩ : ∃ J, tmJ (tmJ ts us n) (fun _ => t) (n + m) = J := ⟨_, rfl⟩
  have e0 : J (n + m) = t := by rw [← hJ]; exact tmJ_at (i := 0)
  have hlo : ∀ i, i < n → J i = ts i := fun i hi => by rw [← hJ, tmJ_lo (by omega), tmJ_lo hi]
  have hhi : ∀ i, i < m → J (n + i) = us i := fun i hi => by rw [← hJ, tmJ_lo (by omega), tmJ_at]
  rw [hJ]
  have step : ∀ k, k ≤ m → okB J (n + k) = true ∧ rdN J (n + k) = 1 + rdN us k := by
    intro k
    induction k with
    | zero => intro _; exact ⟨(ok_congr hlo).trans ho, (rd_congr hlo).trans hr⟩
    | succ k ih =>
      intro hk
      obtain ⟨i1, i2⟩ := ih (by omega)
      obtain ⟨hmk, hdk⟩ := hk_at us (k := k) (n := m) (by omega) go
      have hx := rd_next us (k := k) (n := m) (by omega) go
      have e1 := hhi k (by omega)
      refine ⟨?_, ?_⟩
      · show (okB J (n + k) && (myB (J (n + k)) && decide (ndN (J (n + k)).op ≤ rdN J (n + k)))) = true
        rw [i1, e1, hmk, i2, decide_eq_true (by omega)]; rfl
      · show rdN J (n + k) + 1 - ndN (J (n + k)).op = _
        rw [i2, e1]; omega
  obtain ⟨o1, r1⟩ := step m (Nat.le_refl _)
  have hrt : rtB J (n + m + 1) = true := by
    refine rt_of (by omega) ?_ ?_
    · show (okB J (n + m) && (myB (J (n + m)) && decide (ndN (J (n + m)).op ≤ rdN J (n + m)))) = true
      rw [o1, e0, hm, r1, h2, gr]; rfl
    · show rdN J (n + m) + 1 - ndN (J (n + m)).op = 1
      rw [r1, e0, h2, gr]
  refine ⟨hrt, ?_⟩
  have mp := rt_pos g
  have rn : rdN J n = 1 := (rd_congr hlo).trans hr
  obtain ⟨_, _, n3⟩ := mn_bin (b := n) hrt (by rw [e0]; exact h2) (by omega) (by rw [r1, rn, gr]) (fun q q1 q2 => by
    have := (step (q - n) (by omega)).2
    rw [show n + (q - n) = q by omega] at this
    have := rd_pos us (k := q - n) (by omega) (ok_down us (by omega) go)
    omega)
  rw [n3, e0, mn_congr hlo]
  have : mnF (from_ J n) (n + m - n) = mnF us m := by
    rw [show n + m - n = m by omega]
    exact mn_congr (fun i hi => hhi i hi)
  rw [this]
/-- 'with' of one formula. -/
theorem lw_one (t : Tm) (A : Option Addr) (n c : Nat) (ts : Nat → Tm) (u : World) (h : Terms u A n ts) (h0 : 0 < n) (h10 : n ≤ 10) (ht : t.b ≤ 9223372036854775807) :
    Calls Try.prog 14 #[t.val, .slice (some ⟨u.heap.size, 0, none⟩) 1 1] (u.alloc (.cells #[.slice A n c] 22)) (WiR (n + 1) (tmJ ts (fun _ => t) n) (u.alloc (.cells #[.slice A n c] 22))) := by
  have hb := below_alloc_on (Below.refl u.heap.size u) (.cells #[.slice A n c] 22)
  have e1 : catN (fun _ => n) 1 = n := by unfold catN catN; omega
  have e2 : catF (fun _ => n) (fun _ => ts) 1 = ts := by
    funext i
    show tmJ (fun _ => ⟨0, 0, 0⟩) ts 0 i = ts i
    unfold tmJ
    rw [if_neg (by omega), Nat.sub_zero]
  have := lw_with t (some ⟨u.heap.size, 0, none⟩) 1 1 (fun _ => A) (fun _ => n) (fun _ => c) (fun _ => ts) (u.alloc (.cells #[.slice A n c] 22)) ht
    (fun _ => ⟨u.heap.size, 0, rfl, by simp, fun i hi => by
      obtain rfl : i = 0 := by omega
      exact (box_new u #[.slice A n c] 22).2.1 0⟩) (fun i hi => ⟨h.below hb, h0, h10⟩) (by omega) (fun i hi => by
      rw [e1] at hi
      rw [e1, e2]
      by_cases x : i < n
      · rw [tmJ_lo x]; exact h.1 i x
      · unfold tmJ; rw [if_neg x]; exact ht)
  rw [e1, e2] at this
  exact this
/-- 'with' of two. -/
theorem lw_two (t : Tm) (A B : Option Addr) (n c m d : Nat) (ts us : Nat → Tm) (u : World) (h : Terms u A n ts) (g : Terms u B m us) (h0 : 0 < n) (h10 : n ≤ 10) (g0 : 0 < m) (g10 : m ≤ 10) (ht : t.b ≤ 9223372036854775807) :
    Calls Try.prog 14 #[t.val, .slice (some ⟨u.heap.size, 0, none⟩) 2 2] (u.alloc (.cells #[.slice A n c, .slice B m d] 22)) (WiR (n + m + 1) (tmJ (tmJ ts us n) (fun _ => t) (n + m)) (u.alloc (.cells #[.slice A n c, .slice B m d] 22))) := by
  have hb := below_alloc_on (Below.refl u.heap.size u) (.cells #[.slice A n c, .slice B m d] 22)
  have e1 : catN (fun i => if i = 0 then n else m) 2 = n + m := by
    show 0 + (if (0 : Nat) = 0 then n else m) + (if (1 : Nat) = 0 then n else m) = _
    simp
  have e2 : catF (fun i => if i = 0 then n else m) (fun i => if i = 0 then ts else us) 2 = tmJ ts us n := by
    have e : tmJ (fun _ => ⟨0, 0, 0⟩) ts 0 = ts := by
      funext i
      unfold tmJ
      rw [if_neg (by omega), Nat.sub_zero]
    show tmJ (tmJ (fun _ => ⟨0, 0, 0⟩) ts 0) us (0 + n) = _
    rw [e, Nat.zero_add]
  have := lw_with t (some ⟨u.heap.size, 0, none⟩) 2 2 (fun i => if i = 0 then A else B) (fun i => if i = 0 then n else m) (fun i => if i = 0 then c else d) (fun i => if i = 0 then ts else us) (u.alloc (.cells #[.slice A n c, .slice B m d] 22)) ht
    (fun _ => ⟨u.heap.size, 0, rfl, by simp, fun i hi => by
      match i, hi with
      | 0, _ => exact (box_new u #[.slice A n c, .slice B m d] 22).2.1 0
      | 1, _ => exact (box_new u #[.slice A n c, .slice B m d] 22).2.1 1⟩) (fun i hi => by
      match i, hi with
      | 0, _ => exact ⟨h.below hb, h0, h10⟩
      | 1, _ => exact ⟨g.below hb, g0, g10⟩) (by omega) (fun i hi => by
      rw [e1] at hi
      rw [e1, e2]
      by_cases x : i < n + m
      · rw [tmJ_lo x]
        by_cases y : i < n
        · rw [tmJ_lo y]; exact h.1 i y
        · unfold tmJ; rw [if_neg y]; exact g.1 _ (by omega)
      · unfold tmJ; rw [if_neg x]; exact ht)
  rw [e1, e2] at this
  exact this

/-- The last place is no earlier than any at which it is so; and it is so there. -/
theorem lw_ge0 (f : Nat → Bool) (b : Bool) : ∀ {k u : Nat}, u ≤ k → f u = b → (u : Int) ≤ ltV f b k
  | 0, u, h, hf => by
    obtain rfl : u = 0 := by omega
    unfold ltV; rw [if_pos hf]; omega
  | k + 1, u, h, hf => by
    unfold ltV
    by_cases e : f (k + 1) = b
    · rw [if_pos e]; omega
    · rw [if_neg e]
      have : u ≠ k + 1 := fun x => e (x ▸ hf)
      exact lw_ge0 f b (by omega) hf
theorem lw_so0 (f : Nat → Bool) (b : Bool) : ∀ {k : Nat}, 0 ≤ ltV f b k → ∃ u, u ≤ k ∧ ltV f b k = (u : Int) ∧ f u = b
  | 0, h => by
    unfold ltV at h ⊢
    by_cases e : f 0 = b
    · exact ⟨0, Nat.le_refl _, by rw [if_pos e]; rfl, e⟩
    · rw [if_neg e] at h; omega
  | k + 1, h => by
    unfold ltV at h ⊢
    by_cases e : f (k + 1) = b
    · exact ⟨k + 1, Nat.le_refl _, by rw [if_pos e], e⟩
    · rw [if_neg e] at h ⊢
      obtain ⟨u, h1, h2, h3⟩ := lw_so0 f b (k := k) h
      exact ⟨u, by omega, h2, h3⟩
theorem lw_ge (f : Nat → Bool) {k u : Nat} (h : u ≤ k) (hf : f u = true) : (u : Int) ≤ ltV f true k := lw_ge0 f true h hf
theorem lw_last (f : Nat → Bool) {k : Nat} (h : 0 ≤ ltV f true k) : ∃ u, u ≤ k ∧ ltV f true k = (u : Int) ∧ f u = true := lw_so0 f true h
/-- The laws themselves. -/
theorem lw_contrary (os : Nat → Ou) (a : Mn) (n : Int) (k : Nat) : soM os (.not (.once (.not a) n)) k = soM os (.always a n) k := by
  show (!(decide ((k : Int) - ltV (fun i => !(soM os a i)) true k ≤ n))) = decide (n < (k : Int) - ltV (soM os a) false k)
  have e : ∀ (f : Nat → Bool) j, ltV (fun i => !(f i)) true j = ltV f false j := fun f j => by
    induction j with
    | zero => unfold ltV; cases f 0 <;> rfl
    | succ j ih => unfold ltV; rw [ih]; cases f (j + 1) <;> rfl
  rw [e]
  by_cases h : n < (k : Int) - ltV (soM os a) false k
  · rw [decide_eq_true h, decide_eq_false (by omega)]; rfl
  · rw [decide_eq_false h, decide_eq_true (by omega)]; rfl
theorem lw_now (os : Nat → Ou) (a : Mn) (k : Nat) : soM os (.once a 0) k = soM os a k := by
  show decide ((k : Int) - ltV (soM os a) true k ≤ 0) = _
  have hb := lt_bd (soM os a) true k
  cases h : soM os a k
  · refine decide_eq_false (fun x => ?_)
    obtain ⟨u, h1, h2, h3⟩ := lw_last (soM os a) (k := k) (by omega)
    obtain rfl : u = k := by omega
    rw [h] at h3; cases h3
  · exact decide_eq_true (by have := lw_ge (soM os a) (Nat.le_refl k) h; omega)
theorem lw_once (os : Nat → Ou) (a : Mn) (n : Int) (hn : 0 < n) (h1000 : n ≤ 1000) : ∀ k, soM os (.once a n) k = (soM os a k || (decide (0 < k) && soM os (.once a (n - 1)) (k - 1)))
  | 0 => by
    show decide (((0 : Nat) : Int) - ltV (soM os a) true 0 ≤ n) = _
    unfold ltV
    cases soM os a 0
    · rw [if_neg (by simp)]; simp; omega
    · rw [if_pos rfl]; simp; omega
  | k + 1 => by
    show decide (((k + 1 : Nat) : Int) - ltV (soM os a) true (k + 1) ≤ n) = (_ || (_ && decide (((k + 1 - 1 : Nat) : Int) - ltV (soM os a) true (k + 1 - 1) ≤ n - 1)))
    have sa : ltV (soM os a) true (k + 1) = if soM os a (k + 1) = true then ((k + 1 : Nat) : Int) else ltV (soM os a) true k := rfl
    rw [show k + 1 - 1 = k by omega, decide_eq_true (p := 0 < k + 1) (by omega), Bool.true_and, sa]
    cases soM os a (k + 1)
    · rw [if_neg (show ¬ (false = true) by simp), Bool.false_or]
      by_cases x : ((k + 1 : Nat) : Int) - ltV (soM os a) true k ≤ n
      · rw [decide_eq_true x]; exact (decide_eq_true (by omega)).symm
      · rw [decide_eq_false x]; exact (decide_eq_false (by omega)).symm
    · rw [if_pos rfl, Bool.true_or]
      exact decide_eq_true (by omega)
theorem lw_since (os : Nat → Ou) (a b : Mn) : ∀ k, soM os (.since a b) k = (soM os b k || (soM os a k && (decide (0 < k) && soM os (.since a b) (k - 1))))
  | 0 => by
    show (decide (0 ≤ ltV (soM os b) true 0) && decide (ltV (soM os a) false 0 ≤ ltV (soM os b) true 0)) = _
    rw [decide_eq_false (p := 0 < 0) (by omega), Bool.false_and]
    unfold ltV
    cases soM os a 0 <;> cases soM os b 0 <;> decide
  | k + 1 => by
    have ha := lt_bd (soM os a) false k
    have hb := lt_bd (soM os b) true k
    have sa : ltV (soM os a) false (k + 1) = if soM os a (k + 1) = false then ((k + 1 : Nat) : Int) else ltV (soM os a) false k := rfl
    have sb : ltV (soM os b) true (k + 1) = if soM os b (k + 1) = true then ((k + 1 : Nat) : Int) else ltV (soM os b) true k := rfl
    show (decide (0 ≤ ltV (soM os b) true (k + 1)) && decide (ltV (soM os a) false (k + 1) ≤ ltV (soM os b) true (k + 1))) = (_ || (_ && (_ && (decide (0 ≤ ltV (soM os b) true (k + 1 - 1)) && decide (ltV (soM os a) false (k + 1 - 1) ≤ ltV (soM os b) true (k + 1 - 1))))))
    rw [show k + 1 - 1 = k by omega, decide_eq_true (p := 0 < k + 1) (by omega), Bool.true_and, sa, sb]
    cases soM os b (k + 1)
    · rw [if_neg (show ¬ (false = true) by simp), Bool.false_or]
      cases soM os a (k + 1)
      · rw [if_pos rfl, Bool.false_and, decide_eq_false (p := ((k + 1 : Nat) : Int) ≤ ltV (soM os b) true k) (by omega), Bool.and_false]
      · rw [if_neg (show ¬ (true = false) by simp), Bool.true_and]
    · rw [if_pos rfl, Bool.true_or, decide_eq_true (show (0 : Int) ≤ ((k + 1 : Nat) : Int) by omega), Bool.true_and]
      cases soM os a (k + 1)
      · rw [if_pos rfl]; exact decide_eq_true (Int.le_refl _)
      · rw [if_neg (show ¬ (true = false) by simp)]; exact decide_eq_true (by omega)
end Go.Proofs.Ytmemhlhjkpijpaa
