/- One more than the limit is enough to keep: the plain mathematics. -/
import Derived.Test.YtknhejpomemilaaLaw5
namespace Go.Proofs.Ytknhejpomemilaa
set_option maxRecDepth 100000
open Go.RowKit
set_option linter.unusedVariables false
set_option linter.unusedSimpArgs false

/-- Of times that do not fall those near are the last ones. -/
theorem near_suffix (K : List Int) (t w : Int) (hp : K.Pairwise (· ≤ ·)) (hx : ∀ x ∈ K, inV x t w = decide (t - w < x)) :
    ∃ K1, K = K1 ++ nearL K t w ∧ ∀ x ∈ K1, x ≤ t - w := by
  induction K with
  | nil => exact ⟨[], rfl, by simp⟩
  | cons y l ih =>
    obtain ⟨hy, hl⟩ := List.pairwise_cons.1 hp
    by_cases h : t - w < y
    · refine ⟨[], ?_, by simp⟩
      unfold nearL
      rw [List.nil_append, List.filter_eq_self.2]
      intro a ha
      rw [hx a ha]
      rcases List.mem_cons.1 ha with rfl | ha
      · simpa using h
      · have := hy a ha; simp; omega
    · obtain ⟨K1, e, h1⟩ := ih hl (fun x hx' => hx x (List.mem_cons_of_mem _ hx'))
      refine ⟨y :: K1, ?_, fun x hx' => ?_⟩
      · have hn : nearL (y :: l) t w = nearL l t w := by
          unfold nearL
          rw [List.filter_cons_of_neg]
          rw [hx y (List.mem_cons_self ..)]; simpa using h
        rw [hn, List.cons_append, ← e]
      · rcases List.mem_cons.1 hx' with rfl | hx'
        · omega
        · exact h1 x hx'

/-- Of all times L the list K keeps what is enough for the limit m, up to t. -/
def Enough (w : Int) (m : Nat) (L K : List Int) (t : Int) : Prop :=
  ∃ T, L = T ++ K ∧ K.length ≤ m + 1 ∧ L.Pairwise (· ≤ ·) ∧ (∀ x ∈ L, 0 ≤ x ∧ x ≤ t) ∧ (K.length = m + 1 ∨ ∀ x ∈ T, x ≤ t - w)
theorem Enough.nil (w : Int) (m : Nat) : Enough w m [] [] 0 := ⟨[], rfl, by simp, by simp, by simp, .inr (by simp)⟩

theorem inV_of {x now w : Int} (h0 : 0 ≤ x) (h1 : x ≤ 1000000) (h2 : 0 ≤ now) (h3 : now ≤ 1000000) (h4 : 0 ≤ w) (h5 : w ≤ 1000000) : inV x now w = decide (now - w < x ∧ x ≤ now) := by
  rw [inV_small x (by omega) (by omega) (by omega) (by omega), clV_small (by omega) (by omega)]

theorem Enough.next {w : Int} {m : Nat} {L K : List Int} {t t' : Int} (h : Enough w m L K t) (ht : t ≤ t') (h0 : 0 ≤ t') (h1 : t' ≤ 1000000) (hw : 0 ≤ w) (hw1 : w ≤ 1000000) (hm : m ≤ 511) :
    Enough w m (L ++ [t']) (pushL (nearL K t' w) ((m : Int) + 1) t') t' := by
  obtain ⟨T, rfl, hl, hp, hb, ho⟩ := h
  obtain ⟨hpT, hpK, hpTK⟩ := List.pairwise_append.1 hp
  obtain ⟨K1, hK, hK1⟩ := near_suffix K t' w hpK (fun x hx => by
    have := hb x (List.mem_append_right _ hx)
    rw [inV_of (by omega) (by omega) (by omega) (by omega) hw hw1, decide_eq_decide]; omega)
  obtain ⟨N, hN⟩ : ∃ N, nearL K t' w = N := ⟨_, rfl⟩
  rw [hN] at hK ⊢
  subst hK
  have hr : roomN ((m : Int) + 1) = m + 1 := by unfold roomN cntV; split <;> (try split) <;> omega
  have hc : cntV N.length (((m + 1 : Nat) : Int) - 1) = min N.length m := by unfold cntV; split <;> (try split) <;> omega
  have hP : pushL N ((m : Int) + 1) t' = N.drop (N.length - min N.length m) ++ [t'] := by
    unfold pushL; rw [hr, if_neg (by omega)]; unfold lastL; rw [hc]
  rw [hP]
  rw [List.length_append] at hl
  refine ⟨T ++ K1 ++ N.take (N.length - min N.length m), ?_, ?_, ?_, ?_, ?_⟩
  · have := List.take_append_drop (N.length - min N.length m) N
    simp only [List.append_assoc]
    rw [← List.append_assoc (List.take _ N), this]
  · simp; omega
  · rw [List.pairwise_append]
    refine ⟨hp, by simp, fun a ha b hb' => ?_⟩
    have := hb a ha
    simp at hb'
    omega
  · intro x hx
    rcases List.mem_append.1 hx with hx | hx
    · have := hb x hx; omega
    · simp at hx; omega
  · rcases Nat.lt_or_ge N.length m with hlt | hge
    · right
      intro x hx
      rw [show N.length - min N.length m = 0 by omega, List.take_zero, List.append_nil] at hx
      rcases List.mem_append.1 hx with hxT | hxK
      · rcases ho with ho | ho
        · rw [List.length_append] at ho
          cases K1 with
          | nil => simp at ho; omega
          | cons y K1 =>
            have e1 := hpTK x hxT y (by simp)
            have e2 := hK1 y (by simp)
            omega
        · have := ho x hxT; omega
      · exact hK1 x hxK
    · left
      simp; omega

theorem Enough.tells {w : Int} {m : Nat} {L K : List Int} {t now : Int} (h : Enough w m L K t) (ht : t ≤ now) (h0 : 0 ≤ now) (h1 : now ≤ 1000000) (hw : 0 ≤ w) (hw1 : w ≤ 1000000) :
    (cntI L now w ≤ m ∧ cntI K now w = cntI L now w) ∨ ((m : Int) < cntI L now w ∧ (m : Int) < cntI K now w) := by
  obtain ⟨T, rfl, hl, hp, hb, ho⟩ := h
  obtain ⟨hpT, hpK, hpTK⟩ := List.pairwise_append.1 hp
  have hs : cntI (T ++ K) now w = cntI T now w + cntI K now w := by unfold cntI nearL; simp
  have hT : (∀ x ∈ T, inV x now w = false) → cntI T now w = 0 := fun h => by
    have : nearL T now w = [] := by unfold nearL; rw [List.filter_eq_nil_iff]; intro x hx; rw [h x hx]; simp
    unfold cntI; rw [this]; rfl
  have hI : ∀ x ∈ T ++ K, inV x now w = decide (now - w < x ∧ x ≤ now) := fun x hx => by
    have := hb x hx
    exact inV_of (by omega) (by omega) (by omega) (by omega) hw hw1
  by_cases hz : ∀ x ∈ T, inV x now w = false
  · have := hT hz; omega
  · obtain ⟨x, hx, hv⟩ : ∃ x ∈ T, inV x now w ≠ false := by simpa using hz
    have hxv : now - w < x := by rw [hI x (List.mem_append_left _ hx)] at hv; simp at hv; omega
    rcases ho with ho | ho
    · have hK : nearL K now w = K := by
        unfold nearL
        rw [List.filter_eq_self]
        intro y hy
        have e1 := hpTK x hx y hy
        have e2 := hb y (List.mem_append_right _ hy)
        rw [hI y (List.mem_append_right _ hy)]
        simp; omega
      have hk : cntI K now w = (m : Int) + 1 := by unfold cntI; rw [hK, ho]; rfl
      have := (cnt_bd T now w).1
      omega
    · have := ho x hx; omega
theorem Enough.len {w : Int} {m : Nat} {L K : List Int} {t : Int} (h : Enough w m L K t) : K.length ≤ m + 1 := by obtain ⟨T, _, hl, _⟩ := h; exact hl
theorem Enough.bd {w : Int} {m : Nat} {L K : List Int} {t : Int} (h : Enough w m L K t) (j : Nat) (hj : j < L.length) : 0 ≤ L.getD j 0 ∧ L.getD j 0 ≤ t := by
  obtain ⟨T, _, _, _, hb, _⟩ := h
  simp only [List.getD, List.getElem?_eq_getElem hj, Option.getD_some]
  exact hb _ (List.getElem_mem hj)
end Go.Proofs.Ytknhejpomemilaa
