/- The buckets of what was told, as mathematics: one step after the other. -/
import Derived.Test.YtjhdlcemeemlhaaCount
import Derived.Maps.OwnSet
import Derived.Maps.Ext
namespace Go.Proofs.Ytjhdlcemeemlhaa
set_option maxRecDepth 100000
open Go.RowKit Go.Maps
set_option linter.unusedVariables false
set_option linter.unusedSimpArgs false

structure Mi where
  b : Bk
  first : Int
def miV (m : Mi) : Value := .agg #[.int .i64 m.b.power, .int .i64 m.b.minute, .int .i64 m.b.ticks, .int .i64 m.b.drops, .int .i64 m.b.least, .int .i64 m.b.most, .int .i64 m.b.volume, .int .i64 m.first]
def miC (m : Mi) : List Value := [.int .i64 m.b.power, .int .i64 m.b.minute, .int .i64 m.b.ticks, .int .i64 m.b.drops, .int .i64 m.b.least, .int .i64 m.b.most, .int .i64 m.b.volume, .int .i64 m.first]
def no0 : Bk := ⟨0, 0, 0, 0, 0, 0, 0⟩
def miZ : Mi := ⟨no0, 0⟩
instance : Inhabited Mi := ⟨miZ⟩
instance : Inhabited Bk := ⟨no0⟩
def mnO (o : Ou) : Int := (max o.tick 0).tdiv 6000
def nwB (p a : Int) (o : Ou) : Bk := ctB ⟨p, a, 0, 0, o.open_, o.open_, 0⟩ o
def upM (p a i : Int) (o : Ou) : List Mi → List Mi
  | [] => [⟨nwB p a o, i⟩]
  | m :: M => if m.b.minute = a then ⟨ctB m.b o, m.first⟩ :: M else m :: upM p a i o M
structure St where
  cl : List Bk
  M : List Mi
  p : Int
def St.all (S : St) : List Bk := S.cl ++ S.M.map Mi.b
def cutS (f : Nat → Ou) (i : Nat) (S : St) : St := if 0 < i ∧ (f i).tick = 0 then ⟨S.all, [], S.p + 1⟩ else S
def upS (f : Nat → Ou) (i : Nat) (S : St) : St := ⟨S.cl, upM S.p (mnO (f i)) i (f i) S.M, S.p⟩
def ofS (f : Nat → Ou) : Nat → St
  | 0 => ⟨[], [], 0⟩
  | i + 1 => upS f i (cutS f i (ofS f i))
structure Good (i : Nat) (S : St) : Prop where
  p0 : 0 ≤ S.p
  cl : ∀ b ∈ S.cl, b.power < S.p
  pw : ∀ m ∈ S.M, m.b.power = S.p
  tk : ∀ m ∈ S.M, 1 ≤ m.b.ticks ∧ m.b.ticks ≤ i
  dr : ∀ m ∈ S.M, 0 ≤ m.b.drops ∧ m.b.drops ≤ i
  fi : ∀ m ∈ S.M, 0 ≤ m.first ∧ m.first < i
  mi : ∀ m ∈ S.M, 0 ≤ m.b.minute ∧ m.b.minute ≤ 9223372036854775807
  ne : S.M.Pairwise (fun x y => x.b.minute ≠ y.b.minute)
  lt : S.M.Pairwise (fun x y => x.first < y.first)
  len : S.cl.length + S.M.length ≤ i
theorem Good.cut {f : Nat → Ou} {i : Nat} {S : St} (h : Good i S) : Good i (cutS f i S) := by
  unfold cutS
  split
  · refine ⟨by have := h.p0; show 0 ≤ S.p + 1; omega, fun b hb => ?_, fun m hm => by simp at hm, fun m hm => by simp at hm, fun m hm => by simp at hm, fun m hm => by simp at hm, fun m hm => by simp at hm, List.Pairwise.nil, List.Pairwise.nil, ?_⟩
    · show b.power < S.p + 1
      rcases List.mem_append.1 hb with hb | hb
      · have := h.cl b hb; omega
      · obtain ⟨m, hm, rfl⟩ := List.mem_map.1 hb
        have := h.pw m hm; omega
    · have := h.len; simp [St.all]; omega
  · exact h
/-- How a tick comes in: into the bucket of its minute, or behind all. -/
theorem upM_ways (p a i : Int) (o : Ou) : ∀ M : List Mi, ((∀ m ∈ M, m.b.minute ≠ a) ∧ upM p a i o M = M ++ [⟨nwB p a o, i⟩]) ∨
    ∃ k m, k < M.length ∧ M[k]? = some m ∧ m.b.minute = a ∧ upM p a i o M = M.set k ⟨ctB m.b o, m.first⟩
  | [] => .inl ⟨fun m hm => by simp at hm, rfl⟩
  | m :: M => by
    unfold upM
    by_cases h : m.b.minute = a
    · rw [if_pos h]
      exact .inr ⟨0, m, by simp, rfl, h, rfl⟩
    · rw [if_neg h]
      rcases upM_ways p a i o M with ⟨h1, h2⟩ | ⟨k, x, h1, h2, h3, h4⟩
      · refine .inl ⟨fun z hz => ?_, by rw [h2]; rfl⟩
        rcases List.mem_cons.1 hz with rfl | hz
        · exact h
        · exact h1 z hz
      · exact .inr ⟨k + 1, x, by simp; omega, by simpa using h2, h3, by rw [h4]; rfl⟩
theorem ctB_minute (b : Bk) (o : Ou) : (ctB b o).minute = b.minute := rfl
theorem ctB_power (b : Bk) (o : Ou) : (ctB b o).power = b.power := rfl
theorem pair_set {α : Type} {R : α → α → Prop} {M : List α} {k : Nat} {m x : α} (hk : M[k]? = some m) (h : M.Pairwise R) (h1 : ∀ y, R m y → R x y) (h2 : ∀ y, R y m → R y x) : (M.set k x).Pairwise R := by
  induction M generalizing k with
  | nil => simp at hk
  | cons z M ih =>
    obtain ⟨p1, p2⟩ := List.pairwise_cons.1 h
    cases k with
    | zero =>
      simp at hk
      subst hk
      exact List.pairwise_cons.2 ⟨fun y hy => h1 y (p1 y hy), p2⟩
    | succ k =>
      simp at hk
      refine List.pairwise_cons.2 ⟨fun y hy => ?_, ih hk p2⟩
      rcases List.mem_or_eq_of_mem_set hy with hy | rfl
      · exact p1 y hy
      · exact h2 _ (p1 m (List.mem_of_getElem? hk))
theorem mem_upM {p a i : Int} {o : Ou} {M : List Mi} (hn : M.Pairwise (fun x y => x.b.minute ≠ y.b.minute)) : ∃ m', m'.b.minute = a ∧ (m' = ⟨nwB p a o, i⟩ ∧ (∀ m ∈ M, m.b.minute ≠ a) ∨ ∃ m ∈ M, m.b.minute = a ∧ m' = ⟨ctB m.b o, m.first⟩) ∧ ∀ x, x ∈ upM p a i o M ↔ x = m' ∨ (x ∈ M ∧ x.b.minute ≠ a) := by
  induction M with
  | nil => exact ⟨⟨nwB p a o, i⟩, rfl, .inl ⟨rfl, fun m hm => by simp at hm⟩, fun x => by simp [upM]⟩
  | cons z M ih =>
    obtain ⟨p1, p2⟩ := List.pairwise_cons.1 hn
    unfold upM
    by_cases h : z.b.minute = a
    · rw [if_pos h]
      refine ⟨⟨ctB z.b o, z.first⟩, h, .inr ⟨z, by simp, h, rfl⟩, fun x => ?_⟩
      constructor
      · intro hx
        rcases List.mem_cons.1 hx with hx | hx
        · exact .inl hx
        · exact .inr ⟨by simp [hx], fun e => p1 x hx (h.trans e.symm)⟩
      · rintro (rfl | ⟨hx, hne⟩)
        · simp
        · rcases List.mem_cons.1 hx with rfl | hx
          · exact absurd h hne
          · simp [hx]
    · rw [if_neg h]
      obtain ⟨m', e1, e2, e3⟩ := ih p2
      refine ⟨m', e1, ?_, fun x => ?_⟩
      · rcases e2 with ⟨e2, e4⟩ | ⟨m, hm, e4, e5⟩
        · refine .inl ⟨e2, fun m hm => ?_⟩
          rcases List.mem_cons.1 hm with rfl | hm
          · exact h
          · exact e4 m hm
        · exact .inr ⟨m, by simp [hm], e4, e5⟩
      · rw [List.mem_cons, e3, List.mem_cons]
        constructor
        · rintro (rfl | hx | ⟨hx, hne⟩)
          · exact .inr ⟨.inl rfl, h⟩
          · exact .inl hx
          · exact .inr ⟨.inr hx, hne⟩
        · rintro (hx | ⟨rfl | hx, hne⟩)
          · exact .inr (.inl hx)
          · exact .inl rfl
          · exact .inr (.inr ⟨hx, hne⟩)
theorem Good.up {f : Nat → Ou} {i : Nat} {S : St} (h : Good i S) (ha : 0 ≤ mnO (f i) ∧ mnO (f i) ≤ 9223372036854775807) : Good (i + 1) (upS f i S) := by
  obtain ⟨m', e1, e2, e3⟩ := mem_upM (p := S.p) (a := mnO (f i)) (i := i) (o := f i) h.ne
  have each : ∀ (Q : Mi → Prop), (∀ m ∈ S.M, Q m) → Q m' → ∀ m ∈ (upS f i S).M, Q m := fun Q h1 h2 m hm => by
    rcases (e3 m).1 hm with rfl | ⟨hm, _⟩
    · exact h2
    · exact h1 m hm
  have ct : ∀ (b : Bk), 0 ≤ b.drops → 0 ≤ (ctB b (f i)).drops ∧ (ctB b (f i)).drops ≤ b.drops + 1 := fun b h0 => by
    show 0 ≤ (if (f i).drop then b.drops + 1 else b.drops) ∧ (if (f i).drop then b.drops + 1 else b.drops) ≤ b.drops + 1
    cases (f i).drop
    · exact ⟨h0, by show b.drops ≤ _; omega⟩
    · exact ⟨by show 0 ≤ b.drops + 1; omega, Int.le_refl _⟩
  refine ⟨h.p0, h.cl, each _ h.pw ?_, each (fun m => 1 ≤ m.b.ticks ∧ m.b.ticks ≤ ((i + 1 : Nat) : Int)) (fun m hm => by have := h.tk m hm; omega) ?_, each (fun m => 0 ≤ m.b.drops ∧ m.b.drops ≤ ((i + 1 : Nat) : Int)) (fun m hm => by have := h.dr m hm; omega) ?_, each (fun m => 0 ≤ m.first ∧ m.first < ((i + 1 : Nat) : Int)) (fun m hm => by have := h.fi m hm; omega) ?_, each _ h.mi (by rw [e1]; exact ha), ?_, ?_, ?_⟩
  · rcases e2 with ⟨rfl, _⟩ | ⟨m, hm, _, rfl⟩
    · rfl
    · exact h.pw m hm
  · rcases e2 with ⟨rfl, _⟩ | ⟨m, hm, _, rfl⟩
    · show 1 ≤ (0 : Int) + 1 ∧ (0 : Int) + 1 ≤ _; omega
    · have := h.tk m hm
      show 1 ≤ m.b.ticks + 1 ∧ m.b.ticks + 1 ≤ _
      omega
  · rcases e2 with ⟨rfl, _⟩ | ⟨m, hm, _, rfl⟩
    · have := ct ⟨S.p, mnO (f i), 0, 0, (f i).open_, (f i).open_, 0⟩ (Int.le_refl _)
      show 0 ≤ (nwB S.p (mnO (f i)) (f i)).drops ∧ _
      unfold nwB
      simp only at this ⊢
      omega
    · have h0 := h.dr m hm
      have := ct m.b h0.1
      simp only
      omega
  · rcases e2 with ⟨rfl, _⟩ | ⟨m, hm, _, rfl⟩
    · show 0 ≤ (i : Int) ∧ (i : Int) < _; omega
    · have := h.fi m hm
      simp only
      omega
  · rcases upM_ways S.p (mnO (f i)) i (f i) S.M with ⟨h1, h2⟩ | ⟨k, m, _, h2, h3, h4⟩
    · show (upM _ _ _ _ _).Pairwise _
      rw [h2, List.pairwise_append]
      exact ⟨h.ne, List.pairwise_singleton _ _, fun x hx y hy => by rw [List.mem_singleton] at hy; subst hy; exact h1 x hx⟩
    · show (upM _ _ _ _ _).Pairwise _
      rw [h4]
      exact pair_set h2 h.ne (fun y hy => hy) (fun y hy => hy)
  · rcases upM_ways S.p (mnO (f i)) i (f i) S.M with ⟨h1, h2⟩ | ⟨k, m, _, h2, h3, h4⟩
    · show (upM _ _ _ _ _).Pairwise _
      rw [h2, List.pairwise_append]
      exact ⟨h.lt, List.pairwise_singleton _ _, fun x hx y hy => by rw [List.mem_singleton] at hy; subst hy; exact (h.fi x hx).2⟩
    · show (upM _ _ _ _ _).Pairwise _
      rw [h4]
      exact pair_set h2 h.lt (fun y hy => hy) (fun y hy => hy)
  · have := h.len
    show S.cl.length + (upM _ _ _ _ S.M).length ≤ i + 1
    rcases upM_ways S.p (mnO (f i)) i (f i) S.M with ⟨h1, h2⟩ | ⟨k, m, _, h2, h3, h4⟩
    · rw [h2, List.length_append, List.length_singleton]; omega
    · rw [h4, List.length_set]; omega
theorem mnO_in (o : Ou) (h : o.tick ≤ 9223372036854775807) : 0 ≤ mnO o ∧ mnO o ≤ 9223372036854775807 := by
  unfold mnO
  have e : (max o.tick 0).tdiv 6000 = (max o.tick 0) / 6000 := Int.tdiv_eq_ediv_of_nonneg (by omega)
  rw [e]; omega
theorem ofS_good (f : Nat → Ou) (n : Nat) (hf : ∀ i, i < n → (f i).tick ≤ 9223372036854775807) : ∀ i, i ≤ n → Good i (ofS f i)
  | 0, _ => ⟨Int.le_refl _, fun b hb => by simp [ofS] at hb, fun b hb => by simp [ofS] at hb, fun b hb => by simp [ofS] at hb, fun b hb => by simp [ofS] at hb, fun b hb => by simp [ofS] at hb, fun b hb => by simp [ofS] at hb, List.Pairwise.nil, List.Pairwise.nil, Nat.le_refl _⟩
  | i + 1, h => (ofS_good f n hf i (by omega)).cut.up (mnO_in _ (hf i (by omega)))
theorem cutS_p (f : Nat → Ou) (i : Nat) (S : St) : (cutS f i S).p ≤ S.p + 1 := by
  unfold cutS
  split
  · exact Int.le_refl _
  · omega
theorem ofS_p (f : Nat → Ou) : ∀ i, (ofS f i).p ≤ i
  | 0 => Int.le_refl _
  | i + 1 => by
    have h1 := ofS_p f i
    have h2 := cutS_p f i (ofS f i)
    show (cutS f i (ofS f i)).p ≤ _
    omega
/-- The document's search for a bucket. -/
def isB (p a : Int) (b : Bk) : Bool := decide (b.power = p) && decide (b.minute = a)
def lastI (g : Nat → Bk) (p a : Int) : Nat → Int
  | 0 => -1
  | k + 1 => if isB p a (g k) = true then (k : Int) else lastI g p a k
theorem lastI_none {g : Nat → Bk} {p a : Int} : ∀ n, (∀ j, j < n → isB p a (g j) = false) → lastI g p a n = -1
  | 0, _ => rfl
  | k + 1, h => by
    unfold lastI
    rw [h k (by omega)]
    simp only [Bool.false_eq_true, if_false]
    exact lastI_none k fun j hj => h j (by omega)
theorem lastI_one {g : Nat → Bk} {p a : Int} {K : Nat} (hK : isB p a (g K) = true) : ∀ n, K < n → (∀ j, K < j → j < n → isB p a (g j) = false) → lastI g p a n = K
  | 0, h, _ => absurd h (by omega)
  | k + 1, h, ho => by
    unfold lastI
    by_cases e : k = K
    · subst e; rw [if_pos hK]
    · rw [ho k (by omega) (by omega)]
      simp only [Bool.false_eq_true, if_false]
      exact lastI_one hK k (by omega) fun j h1 h2 => ho j h1 (by omega)
def atL (l : List Bk) (i : Nat) : Bk := l.getD i no0
theorem atL_mem {l : List Bk} {i : Nat} (h : i < l.length) : atL l i ∈ l := by
  unfold atL
  rw [List.getD_eq_getElem?_getD, List.getElem?_eq_getElem h]
  exact List.getElem_mem h
theorem isB_iff {p a : Int} {b : Bk} : isB p a b = true ↔ b.power = p ∧ b.minute = a := by simp [isB]
/-- What the search finds, and what becomes of the list. -/
theorem Good.search {f : Nat → Ou} {i : Nat} {S : St} (h : Good i S) :
    (lastI (atL S.all) S.p (mnO (f i)) S.all.length = -1 ∧ (upS f i S).all = S.all ++ [nwB S.p (mnO (f i)) (f i)]) ∨
    ∃ K : Nat, K < S.all.length ∧ lastI (atL S.all) S.p (mnO (f i)) S.all.length = K ∧ 1 ≤ (atL S.all K).ticks ∧ (atL S.all K).ticks ≤ i ∧ 0 ≤ (atL S.all K).drops ∧ (atL S.all K).drops ≤ i ∧ (upS f i S).all = S.all.set K (ctB (atL S.all K) (f i)) := by
  have at1 : ∀ j, j < S.cl.length → atL S.all j ∈ S.cl := fun j hj => by
    have e : atL S.all j = S.cl[j] := by
      unfold atL St.all
      rw [List.getD_eq_getElem?_getD, List.getElem?_append_left hj, List.getElem?_eq_getElem hj]; rfl
    rw [e]; exact List.getElem_mem hj
  have at2 : ∀ j (hj : j < S.M.length), atL S.all (S.cl.length + j) = (S.M[j]).b := fun j hj => by
    unfold atL St.all
    rw [List.getD_eq_getElem?_getD, List.getElem?_append_right (by omega), Nat.add_sub_cancel_left, List.getElem?_map, List.getElem?_eq_getElem hj]; rfl
  have hlen : S.all.length = S.cl.length + S.M.length := by simp [St.all]
  rcases upM_ways S.p (mnO (f i)) i (f i) S.M with ⟨h1, h2⟩ | ⟨k, m, hk, h2, h3, h4⟩
  · refine .inl ⟨lastI_none _ fun j hj => ?_, ?_⟩
    · rw [Bool.eq_false_iff]
      intro hb
      obtain ⟨e1, e2⟩ := isB_iff.1 hb
      by_cases hc : j < S.cl.length
      · have := h.cl _ (at1 j hc); omega
      · obtain ⟨q, rfl⟩ : ∃ q, j = S.cl.length + q := ⟨j - S.cl.length, by omega⟩
        rw [at2 q (by omega)] at e2
        exact h1 _ (List.getElem_mem _) e2
    · show S.cl ++ (upM _ _ _ _ _).map Mi.b = _
      rw [h2, List.map_append, ← List.append_assoc]
      rfl
  · have hm : S.M[k] = m := by rw [List.getElem?_eq_getElem hk] at h2; exact Option.some.inj h2
    have hin : m ∈ S.M := hm ▸ List.getElem_mem hk
    have e0 : atL S.all (S.cl.length + k) = m.b := by rw [at2 k hk, hm]
    refine .inr ⟨S.cl.length + k, by omega, lastI_one (by rw [e0]; exact isB_iff.2 ⟨h.pw m hin, h3⟩) _ (by omega) fun j h5 h6 => ?_, by rw [e0]; exact (h.tk m hin).1, by rw [e0]; exact (h.tk m hin).2, by rw [e0]; exact (h.dr m hin).1, by rw [e0]; exact (h.dr m hin).2, ?_⟩
    · rw [Bool.eq_false_iff]
      intro hb
      obtain ⟨e1, e2⟩ := isB_iff.1 hb
      obtain ⟨q, rfl⟩ : ∃ q, j = S.cl.length + q := ⟨j - S.cl.length, by omega⟩
      rw [at2 q (by omega)] at e2
      have := List.pairwise_iff_getElem.1 h.ne k q hk (by omega) (by omega)
      rw [hm] at this
      exact this (h3.trans e2.symm)
    · show S.cl ++ (upM _ _ _ _ _).map Mi.b = _
      rw [h4, List.map_set, e0]
      unfold St.all
      rw [List.set_append, if_neg (by omega), Nat.add_sub_cancel_left]
end Go.Proofs.Ytjhdlcemeemlhaa
