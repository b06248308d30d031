/- What a monitor finds is what the formula means: mathematics. -/
import Derived.Test.YtmemhlhjkpijpaaHolN
import Derived.Test.YtmemhlhjkpijpaaMonRun
namespace Go.Proofs.Ytmemhlhjkpijpaa
open Go.RowKit
set_option linter.unusedVariables false
set_option linter.unusedSimpArgs false
set_option maxRecDepth 100000

/-- How many ticks ago it was so, ahead of tick k; -1, if it was not yet. -/
def agK (f : Nat → Bool) : Nat → Int
  | 0 => -1
  | k + 1 => agoV (agK f k) (f k)
theorem ag_is (f : Nat → Bool) : ∀ k, agK f (k + 1) = if ltV f true k < 0 then -1 else min ((k : Int) - ltV f true k) 1001
  | 0 => by
    show agoV (-1) (f 0) = _
    unfold ltV agoV
    cases f 0
    · rfl
    · rw [if_pos rfl, if_pos rfl, if_neg (by omega)]; omega
  | k + 1 => by
    show agoV (agK f (k + 1)) (f (k + 1)) = _
    have hb := lt_bd f true k
    rw [ag_is f k]
    unfold agoV
    rw [show ltV f true (k + 1) = if f (k + 1) = true then ((k + 1 : Nat) : Int) else ltV f true k from rfl]
    cases f (k + 1)
    · rw [if_neg (show ¬ (false = true) by simp), if_neg (show ¬ (false = true) by simp)]
      by_cases h : ltV f true k < 0
      · rw [if_pos h, if_pos h]; rfl
      · rw [if_neg h, if_neg h, if_neg (by omega)]
        omega
    · rw [if_pos rfl, if_pos rfl, if_neg (by omega)]
      omega
theorem lt_not (f : Nat → Bool) : ∀ k, ltV (fun i => !(f i)) true k = ltV f false k
  | 0 => by unfold ltV; cases f 0 <;> rfl
  | k + 1 => by
    unfold ltV
    rw [lt_not f k]
    cases f (k + 1) <;> rfl
theorem ag_once (f : Nat → Bool) (a : Int) (h : a ≤ 1000) (k : Nat) : (decide (agK f (k + 1) ≠ -1) && decide (agK f (k + 1) ≤ a)) = decide ((k : Int) - ltV f true k ≤ a) := by
  have hb := lt_bd f true k
  rw [ag_is]
  by_cases h0 : ltV f true k < 0
  · rw [if_pos h0]
    have : ltV f true k = -1001 ∨ 0 ≤ ltV f true k := lt_two f true k
    rw [decide_eq_false (by omega), Bool.false_and, decide_eq_false (by omega)]
  · rw [if_neg h0, decide_eq_true (by omega), Bool.true_and]
    by_cases h1 : (k : Int) - ltV f true k ≤ a
    · rw [decide_eq_true h1, decide_eq_true (by omega)]
    · rw [decide_eq_false h1, decide_eq_false (by omega)]
theorem ag_always (f : Nat → Bool) (a : Int) (h : a ≤ 1000) (k : Nat) : (decide (agK (fun i => !(f i)) (k + 1) = -1) || decide (a < agK (fun i => !(f i)) (k + 1))) = decide (a < (k : Int) - ltV f false k) := by
  have hb := lt_bd f false k
  rw [ag_is, lt_not]
  by_cases h0 : ltV f false k < 0
  · rw [if_pos h0]
    have : ltV f false k = -1001 ∨ 0 ≤ ltV f false k := lt_two f false k
    rw [decide_eq_true rfl, Bool.true_or, decide_eq_true (by omega)]
  · rw [if_neg h0, decide_eq_false (by omega), Bool.false_or]
    by_cases h1 : a < (k : Int) - ltV f false k
    · rw [decide_eq_true h1, decide_eq_true (by omega)]
    · rw [decide_eq_false h1, decide_eq_false (by omega)]
/-- What is kept of a since. -/
def snK (op : Int) (f g : Nat → Bool) : Nat → Int
  | 0 => 0
  | k + 1 => biV op (f k) (g k) (snK op f g k)
theorem sn_is {op : Int} (h4 : op ≠ 4) (h5 : op ≠ 5) (f g : Nat → Bool) : ∀ k, biB op (f k) (g k) (snK op f g k) = (decide (0 ≤ ltV g true k) && decide (ltV f false k ≤ ltV g true k))
  | 0 => by
    unfold biB ltV snK
    rw [if_neg h4, if_neg h5]
    cases f 0 <;> cases g 0 <;> decide
  | k + 1 => by
    have ih := sn_is h4 h5 f g k
    have hv : snK op f g (k + 1) = if biB op (f k) (g k) (snK op f g k) = true then 1 else 0 := by
      show biV op _ _ _ = _
      unfold biV biB
      rw [if_neg h4, if_neg h5, if_neg h4, if_neg h5]
    have b1 := lt_bd f false k
    have b2 := lt_bd g true k
    rw [hv, ih]
    unfold biB
    rw [if_neg h4, if_neg h5]
    rw [show ltV f false (k + 1) = if f (k + 1) = false then ((k + 1 : Nat) : Int) else ltV f false k from rfl, show ltV g true (k + 1) = if g (k + 1) = true then ((k + 1 : Nat) : Int) else ltV g true k from rfl]
    cases g (k + 1)
    · rw [if_neg (show ¬ (false = true) by simp)]
      cases f (k + 1)
      · rw [if_pos rfl, decide_eq_false (p := ((k + 1 : Nat) : Int) ≤ ltV g true k) (by omega), Bool.and_false]; rfl
      · rw [if_neg (show ¬ (true = false) by simp)]
        cases (decide (0 ≤ ltV g true k) && decide (ltV f false k ≤ ltV g true k)) <;> rfl
    · rw [if_pos rfl, decide_eq_true (show (0 : Int) ≤ ((k + 1 : Nat) : Int) by omega)]
      cases f (k + 1)
      · rw [if_pos rfl, decide_eq_true (Int.le_refl _)]; rfl
      · rw [if_neg (show ¬ (true = false) by simp), decide_eq_true (show ltV f false k ≤ ((k + 1 : Nat) : Int) by omega)]; rfl

/-- What is kept of part p, ahead of tick k. -/
def kwV (ts : Nat → Tm) (os : Nat → Ou) (p k : Nat) : Int :=
  if (ts p).op = 6 then agK (soM os ((rnM ts [] p).getD 0 .whole)) k
  else if (ts p).op = 7 then agK (fun i => !(soM os ((rnM ts [] p).getD 0 .whole) i)) k
  else if (ts p).op = 8 then snK 8 (soM os ((rnM ts [] p).getD 1 .whole)) (soM os ((rnM ts [] p).getD 0 .whole)) k
  else 0
theorem op_of {t : Tm} (h : myB t = true) : (ndN t.op = 0 ∧ (t.op = 1 ∨ t.op = 2)) ∨ (ndN t.op = 1 ∧ (t.op = 3 ∨ t.op = 6 ∨ t.op = 7)) ∨ (ndN t.op = 2 ∧ (t.op = 4 ∨ t.op = 5 ∨ t.op = 8)) := by
  rcases my_ways h with ⟨h0, h1 | ⟨_, h1⟩⟩ | ⟨h0, _, _, h1 | ⟨_, h1⟩ | ⟨_, _, h1⟩⟩ | ⟨h0, h1, h2, h3, h6, h7⟩
  · exact .inl ⟨h0, .inl (by simpa using h1)⟩
  · exact .inl ⟨h0, .inr (by simpa using h1)⟩
  · exact .inr (.inl ⟨h0, .inl (by simpa using h1)⟩)
  · exact .inr (.inl ⟨h0, .inr (.inl (by simpa using h1))⟩)
  · exact .inr (.inl ⟨h0, .inr (.inr (by simpa using h1))⟩)
  · refine .inr (.inr ⟨h0, ?_⟩)
    have e1 : t.op ≠ 1 := by simpa using h1
    have e3 : t.op ≠ 3 := by simpa using h3
    have e6 : t.op ≠ 6 := by simpa using h6
    have e7 : t.op ≠ 7 := by simpa using h7
    unfold ndN at h0
    rw [if_neg (by omega)] at h0
    by_cases h : t.op = 4 ∨ t.op = 5 ∨ t.op = 8
    · exact h
    · rw [if_neg h] at h0; omega
theorem my_back {t : Tm} (h : myB t = true) (h6 : t.op = 6 ∨ t.op = 7) : 0 ≤ t.a ∧ t.a ≤ 1000 := by
  unfold myB at h
  rw [if_neg (by omega), if_pos h6] at h
  simp at h
  omega
theorem up_at (f : Nat → Bool) (i j : Nat) (v : Bool) : upF f i v j = if j = i then v else f j := rfl
theorem psh0 {t : Tm} (S : List Mn) (e : ndN t.op = 0) : pshM t S = aloM t :: S := by unfold pshM; rw [if_pos e]
theorem psh1 {t : Tm} (S : List Mn) (e : ndN t.op = 1) : pshM t S = unaM t (S.getD 0 .whole) :: S.drop 1 := by unfold pshM; rw [if_neg (by omega), if_pos e]
theorem psh2 {t : Tm} (S : List Mn) (e : ndN t.op = 2) : pshM t S = binM t.op (S.getD 1 .whole) (S.getD 0 .whole) :: S.drop 2 := by unfold pshM; rw [if_neg (by omega), if_neg (by omega)]
/-- What is found of the parts in tick k is what they mean, where what is kept is right. -/
theorem sk_is (ts : Nat → Tm) (os : Nat → Ou) (n k : Nat) (ks : List Int) (ho : okB ts n = true) (hk : ∀ p, p < n → ((ts p).op = 6 ∨ (ts p).op = 7 ∨ (ts p).op = 8) → ks.getD p 0 = kwV ts os p k) :
    ∀ p, p ≤ n → ∀ i, i < rdN ts p → skF ts ks (os k) p i = soM os ((rnM ts [] p).getD (rdN ts p - 1 - i) .whole) k
  | 0, _, i, hi => by simp [rdN] at hi
  | p + 1, hp, i, hi => by
    have ih := sk_is ts os n k ks ho hk p (by omega)
    obtain ⟨hm, hd⟩ := ok_at ts (k := p) (n := n) (by omega) ho
    have hx := rd_next ts (k := p) (n := n) (by omega) ho
    have hl := rn_len ts [] (ok_down ts (show p ≤ n by omega) ho)
    have HK := hk p (by omega)
    have R : rnM ts [] (p + 1) = pshM (ts p) (rnM ts [] p) := rfl
    have RD : rdN ts (p + 1) = rdN ts p + 1 - ndN (ts p).op := rfl
    rw [R]
    unfold skF
    generalize hS : rnM ts [] p = S at *
    generalize rdN ts p = r at *
    rcases op_of hm with ⟨e, ho1⟩ | ⟨e, ho1⟩ | ⟨e, ho1⟩
    · rw [if_pos e, up_at, psh0 S e, RD, e]
      by_cases hi2 : i = r
      · subst hi2
        rw [if_pos rfl, show i + 1 - 0 - 1 - i = 0 by omega]
        show alB (ts p) (os k) = soM os (aloM (ts p)) k
        unfold alB aloM
        by_cases h1 : (ts p).op = 1
        · rw [if_pos h1, if_pos h1]; rfl
        · rw [if_neg h1, if_neg h1]
          by_cases h2 : (ts p).a = 11
          · rw [if_pos h2, if_pos h2]; rfl
          · rw [if_neg h2, if_neg h2]; rfl
      · rw [if_neg hi2, ih i (by omega), show r + 1 - 0 - 1 - i = (r - 1 - i) + 1 by omega]
        rfl
    · rw [if_neg (by omega), if_pos e, up_at]
      have htop := ih (r - 1) (by omega)
      rw [show r - 1 - (r - 1) = 0 by omega] at htop
      rw [psh1 S e, RD, e]
      by_cases hi2 : i = r - 1
      · subst hi2
        rw [if_pos rfl, show r + 1 - 1 - 1 - (r - 1) = 0 by omega, htop]
        show unB (ts p) _ _ = soM os (unaM (ts p) (S.getD 0 .whole)) k
        unfold unB unaM
        by_cases h6 : (ts p).op = 6
        · have hb := my_back hm (.inl h6)
          rw [if_pos h6, if_pos h6, HK (.inl h6)]
          unfold kwV
          rw [if_pos h6, hS]
          exact ag_once _ _ hb.2 k
        · rw [if_neg h6, if_neg h6]
          by_cases h7 : (ts p).op = 7
          · have hb := my_back hm (.inr h7)
            rw [if_pos h7, if_pos h7, HK (.inr (.inl h7))]
            unfold kwV
            rw [if_neg h6, if_pos h7, hS]
            exact ag_always _ _ hb.2 k
          · rw [if_neg h7, if_neg h7]; rfl
      · rw [if_neg hi2, ih i (by omega)]
        match S, hl with
        | a :: q, _ =>
          rw [show r + 1 - 1 - 1 - i = (r - 2 - i) + 1 by omega, show r - 1 - i = (r - 2 - i) + 1 by omega]
          rfl
        | [], hl => simp at hl; omega
    · rw [if_neg (by omega), if_neg (by omega), up_at]
      have ht0 := ih (r - 1) (by omega)
      have ht1 := ih (r - 2) (by omega)
      rw [show r - 1 - (r - 1) = 0 by omega] at ht0
      rw [show r - 1 - (r - 2) = 1 by omega] at ht1
      rw [psh2 S e, RD, e]
      by_cases hi2 : i = r - 2
      · subst hi2
        rw [if_pos rfl, show r + 1 - 2 - 1 - (r - 2) = 0 by omega, ht0, ht1]
        show biB (ts p).op _ _ _ = soM os (binM (ts p).op (S.getD 1 .whole) (S.getD 0 .whole)) k
        rcases ho1 with h4 | h5 | h8
        · rw [h4]; rfl
        · rw [h5]; rfl
        · rw [HK (.inr (.inr h8))]
          unfold kwV
          rw [if_neg (by omega), if_neg (by omega), if_pos h8, hS, h8]
          exact sn_is (by omega) (by omega) _ _ k
      · rw [if_neg hi2, ih i (by omega)]
        match S, hl with
        | a :: b :: q, _ =>
          rw [show r + 1 - 2 - 1 - i = (r - 3 - i) + 1 by omega, show r - 1 - i = (r - 3 - i) + 1 + 1 by omega]
          rfl
        | [a], hl => simp at hl; omega
        | [], hl => simp at hl; omega
theorem kp_at (ts : Nat → Tm) (n : Nat) (os : Nat → Ou) (k p : Nat) (hp : p < n) : (kpL ts n os (k + 1)).getD p 0 = nxV ts (kpL ts n os k) (os k) p := by
  show ((List.range n).map _).getD p 0 = _
  simp [List.getD, hp]
theorem kp_is (ts : Nat → Tm) (os : Nat → Ou) (n : Nat) (ho : okB ts n = true) : ∀ k p, p < n → ((ts p).op = 6 ∨ (ts p).op = 7 ∨ (ts p).op = 8) → (kpL ts n os k).getD p 0 = kwV ts os p k
  | 0, p, hp, h => by
    have e : (kpL ts n os 0).getD p 0 = frV (ts p).op := by
      show ((List.range n).map _).getD p 0 = _
      simp [List.getD, hp]
    rw [e]
    unfold frV kwV
    rcases h with h | h | h <;> rw [h] <;> rfl
  | k + 1, p, hp, h => by
    have ih := kp_is ts os n ho k
    have hs := sk_is ts os n k _ ho ih p (by omega)
    obtain ⟨hm, hd⟩ := ok_at ts hp ho
    rw [kp_at ts n os k p hp]
    unfold nxV
    rcases op_of hm with ⟨e, ho1⟩ | ⟨e, ho1⟩ | ⟨e, ho1⟩
    · omega
    · rw [if_neg (by omega), if_pos e]
      have ht := hs (rdN ts p - 1) (by omega)
      rw [show rdN ts p - 1 - (rdN ts p - 1) = 0 by omega] at ht
      rw [ht, ih p hp h]
      unfold unV kwV
      by_cases h6 : (ts p).op = 6
      · rw [if_pos h6, if_pos h6, if_pos h6]; rfl
      · rw [if_neg h6, if_neg h6, if_neg h6, if_pos (by omega), if_pos (by omega), if_pos (by omega)]; rfl
    · rw [if_neg (by omega), if_neg (by omega)]
      have h8 : (ts p).op = 8 := by omega
      have h0 := hs (rdN ts p - 1) (by omega)
      have h1 := hs (rdN ts p - 2) (by omega)
      rw [show rdN ts p - 1 - (rdN ts p - 1) = 0 by omega] at h0
      rw [show rdN ts p - 1 - (rdN ts p - 2) = 1 by omega] at h1
      rw [h0, h1, ih p hp h]
      unfold kwV
      rw [if_neg (by omega), if_neg (by omega), if_pos h8, if_neg (by omega), if_neg (by omega), if_pos h8, h8]; rfl
/-- What the monitor tells of a tick is what the formula means there. -/
theorem ru_is {ts : Nat → Tm} {n : Nat} (h : rtB ts n = true) (os : Nat → Ou) (k : Nat) : ruB ts n os k = soM os (mnF ts n) k := by
  obtain ⟨_, ho, hr⟩ := rt_parts h
  have hs := sk_is ts os n k _ ho (kp_is ts os n ho k) n (Nat.le_refl _) 0 (by omega)
  unfold ruB mnF
  rw [hs, hr]
end Go.Proofs.Ytmemhlhjkpijpaa
