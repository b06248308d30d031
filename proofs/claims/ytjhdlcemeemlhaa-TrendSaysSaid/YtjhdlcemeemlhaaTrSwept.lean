/- What stands while the open minutes are gone through, each struck as it comes; and what the sort is asked to do. -/
import Derived.Test.YtjhdlcemeemlhaaTrMap
namespace Go.Proofs.Ytjhdlcemeemlhaa
open Go.RowKit Go.Maps
set_option linter.unusedVariables false
set_option linter.unusedSimpArgs false
set_option maxRecDepth 100000

structure Swept (D : DU) (M : List Mi) (n : Nat) (left : Lit → Bool) (cnt : Nat) (D' : DU) (L : List Mi) : Prop where
  has : ∀ kl, Maps.has D' kl = left kl
  sub : ∀ kl, left kl = true → Maps.has D kl = true
  at_ : ∀ x, left (.int .i64 x) = true → ∀ z, D'.atKey (.int .i64 x) z = D.atKey (.int .i64 x) z
  mem : ∀ m, m ∈ L ↔ m ∈ M ∧ left (.int .i64 m.b.minute) = false
  ne : L.Pairwise (fun x y => x.b.minute ≠ y.b.minute)
  len : L.length + cnt ≤ n
theorem Swept.start {D : DU} {M : List Mi} {n : Nat} (h : Rep D M) (hn : Maps.size D ≤ n) : Swept D M n (Maps.has D) (Maps.size D) D [] :=
  ⟨fun _ => rfl, fun _ h => h, fun _ _ _ => rfl, fun m => ⟨fun hm => by simp at hm, fun ⟨hm, e⟩ => by rw [(h.1 _).2 ⟨m, hm, rfl⟩] at e; cases e⟩, List.Pairwise.nil, by simpa using hn⟩
theorem Swept.step {D D' : DU} {M L : List Mi} {n cnt cnt' : Nat} {left : Lit → Bool} (hR : Rep D M) (hM : M.Pairwise (fun x y => x.b.minute ≠ y.b.minute)) (h : Swept D M n left cnt D' L) {x : Int} {c : Mi}
    (hl : left (.int .i64 x) = true) (hat : ∀ zd, D'.atKey (.int .i64 x) zd = miD c) (hc : cnt' < cnt) : Swept D M n (fun z => left z && !z.sameKey (.int .i64 x)) cnt' (D'.del (.int .i64 x)) (L ++ [c]) := by
  have self : (Lit.int .i64 x).sameKey (.int .i64 x) = true := WideAt.sameKey_self trivial
  obtain ⟨m0, hm0, e0⟩ := (hR.1 x).1 (h.sub _ hl)
  have ec : c = m0 := by
    have e1 := hat .nil
    rw [h.at_ x hl, ← e0, hR.2 m0 hm0] at e1
    exact (miD_inj e1).symm
  subst ec
  have one : ∀ m ∈ M, m.b.minute = x → m = c := fun m hm e => by
    by_cases he : m = c
    · exact he
    · obtain ⟨i, hi, e1⟩ := List.getElem_of_mem hm
      obtain ⟨j, hj, e2⟩ := List.getElem_of_mem hm0
      rcases Nat.lt_trichotomy i j with hij | hij | hij
      · have := List.pairwise_iff_getElem.1 hM i j hi hj hij
        rw [e1, e2] at this
        exact absurd (e.trans e0.symm) this
      · subst hij; exact e1.symm.trans e2
      · have := List.pairwise_iff_getElem.1 hM j i hj hi hij
        rw [e1, e2] at this
        exact absurd (e0.trans e.symm) this
  have other : ∀ y : Int, y ≠ x → (Lit.int .i64 y).sameKey (.int .i64 x) = false := fun y hy => sameKey_ne (by intro e; cases e; exact hy rfl)
  refine ⟨fun kl => ?_, fun kl hk => ?_, fun y hy z => ?_, fun m => ?_, ?_, ?_⟩
  · by_cases e : kl = .int .i64 x
    · subst e; rw [has_del_same, self]; simp
    · rw [has_del_other e, h.has, sameKey_ne e]; simp
  · simp only [Bool.and_eq_true] at hk
    exact h.sub kl hk.1
  · simp only [Bool.and_eq_true, Bool.not_eq_true'] at hy
    have hne : y ≠ x := fun e => by subst e; rw [self] at hy; exact absurd hy.2 (by simp)
    rw [atKey_del_other (by intro e; cases e; exact hne rfl)]
    exact h.at_ y hy.1 z
  · rw [List.mem_append, List.mem_singleton, h.mem]
    constructor
    · rintro (⟨hm, e⟩ | rfl)
      · exact ⟨hm, by simp [e]⟩
      · exact ⟨hm0, by rw [e0, self]; simp⟩
    · rintro ⟨hm, e⟩
      by_cases hx : m.b.minute = x
      · exact .inr (one m hm hx)
      · rw [other _ hx] at e
        exact .inl ⟨hm, by simpa using e⟩
  · rw [List.pairwise_append]
    refine ⟨h.ne, List.pairwise_singleton _ _, fun y hy z hz => ?_⟩
    rw [List.mem_singleton] at hz
    subst hz
    intro e
    have := ((h.mem y).1 hy).2
    rw [e, e0, hl] at this
    cases this
  · have := h.len
    simp; omega
theorem Swept.done {D D' : DU} {M L : List Mi} {n cnt : Nat} {left : Lit → Bool} (hM : M.Pairwise (fun x y => x.b.minute ≠ y.b.minute)) (h : Swept D M n left cnt D' L) (hl : ∀ kl, left kl = false) : L.Perm M ∧ Rep D' [] := by
  have nd : ∀ l : List Mi, l.Pairwise (fun x y => x.b.minute ≠ y.b.minute) → l.Nodup := fun l hp => hp.imp (fun hne e => hne (by rw [e]))
  refine ⟨(List.perm_ext_iff_of_nodup (nd L h.ne) (nd M hM)).2 fun m => ?_, fun x => ?_, fun m hm => by simp at hm⟩
  · rw [h.mem]
    exact ⟨fun hm => hm.1, fun hm => ⟨hm, hl _⟩⟩
  · rw [h.has, hl]
    exact ⟨fun e => by simp at e, fun ⟨m, hm, _⟩ => by simp at hm⟩
theorem sorted_is {d M : List Mi} (hp : d.Perm M) (hd : d.Pairwise (fun x y => x.first ≤ y.first)) (hM : M.Pairwise (fun x y => x.first < y.first)) : d = M := by
  refine List.Perm.eq_of_pairwise (le := fun x y => x.first ≤ y.first) (fun x y hx hy h1 h2 => ?_) hd (hM.imp (fun h => Int.le_of_lt h)) hp
  have hx' := hp.mem_iff.1 hx
  obtain ⟨i, hi, e1⟩ := List.getElem_of_mem hx'
  obtain ⟨j, hj, e2⟩ := List.getElem_of_mem hy
  rcases Nat.lt_trichotomy i j with hij | hij | hij
  · have := List.pairwise_iff_getElem.1 hM i j hi hj hij
    rw [e1, e2] at this; omega
  · subst hij; exact e1.symm.trans e2
  · have := List.pairwise_iff_getElem.1 hM j i hj hi hij
    rw [e1, e2] at this; omega
/-- What the sort is asked to do with minutes. -/
def SortC : Prop := ∀ (W : World) (base n : Nat) (v : Value) (l : List Mi), W.ownsRow base 39 8 v n (l.flatMap miC) → l.length = n → n ≤ 1000 →
  Calls Try.prog 18 #[v, .func (.func 19) #[] #[]] W fun e w' => e = .returned (.tuple #[]) ∧
    ∃ d : List Mi, d.Perm l ∧ d.Pairwise (fun x y => x.first ≤ y.first) ∧ w'.ownsRow base 39 8 v n (d.flatMap miC) ∧ W.grownBy w' v.ownBlock
end Go.Proofs.Ytjhdlcemeemlhaa
