/- EyeDips holds of every light and every list of dips: each dip of the light is one drop, in its second tick. No condition. -/
import Derived.Test.YtkddledajffdbaaLaw22
import Derived.Test.YtkddledajffdbaaTri
import Derived.Test.YtkddledajffdbaaNums
import Derived.Test.YtkddledajffdbaaCalm
import Derived.Deep.LoopGhost
namespace Go.Proofs.Ytkddledajffdbaa.eyeDips
open Go.ChangeShapes Go.WideShapes Go.ChangeAt Go.RowKit
set_option linter.unusedVariables false
set_option linter.unusedSimpArgs false
set_option maxRecDepth 100000
attribute [local go_sem] cell_set_ite Near.cell Near.frozen

theorem sub_small {l a : Int} (l0 : -70000 ≤ l) (l1 : l ≤ 70000) (a0 : -70000 ≤ a) (a1 : a ≤ 70000) : subV l a = l - a := by
  have e1 : clV l = l := clV_in (by omega)
  have e2 : clV a = a := clV_in (by omega)
  unfold subV; rw [e1, e2]; exact clV_in (by omega)
theorem getD_old {ys : List Int} {x : Int} {i : Nat} (h : i < ys.length) : (ys ++ [x]).getD i 0 = ys.getD i 0 := by
  simp [List.getD, List.getElem?_append_left h]
theorem getD_new {ys : List Int} {x : Int} : (ys ++ [x]).getD ys.length 0 = x := by simp [List.getD]
theorem gzAt_old {ys : List Int} {x : Int} : ∀ k, k ≤ ys.length → gzAt (ys ++ [x]) k = gzAt ys k
  | 0, _ => rfl
  | k + 1, h => by
    show gzN (gzAt (ys ++ [x]) k) _ = gzN (gzAt ys k) _
    rw [gzAt_old k (by omega), getD_old (by omega)]
theorem gzAt_new {ys : List Int} {x : Int} : gzAt (ys ++ [x]) (ys.length + 1) = gzN (gzAt ys ys.length) x := by
  show gzN (gzAt (ys ++ [x]) ys.length) _ = _
  rw [gzAt_old _ (Nat.le_refl _), getD_new]

/-- What is expected so far. -/
def Ok (L : List Int) (D S : List Bool) : Prop := D.length = L.length ∧ S.length = L.length ∧ ∀ i, i < L.length → snB L i 0 = D.getD i false ∧ snB L i 1 = S.getD i false ∧ snB L i 2 = false
theorem Ok.nil : Ok [] [] [] := ⟨rfl, rfl, fun i h => absurd h (by simp)⟩
theorem sn_old {L : List Int} {x : Int} {i : Nat} (h : i < L.length) (j : Nat) : snB (L ++ [x]) i j = snB L i j := by
  unfold snB
  rw [gzAt_old i (by omega), getD_old h]
theorem Ok.next {L : List Int} {D S : List Bool} {x : Int} {d s : Bool} (h : Ok L D S) (hd : gzD (gzAt L L.length) x = d) (hs : gzS (gzAt L L.length) x = s) (ht : gzT (gzAt L L.length) x = false) : Ok (L ++ [x]) (D ++ [d]) (S ++ [s]) := by
  obtain ⟨h1, h2, h3⟩ := h
  refine ⟨by simp [h1], by simp [h2], fun i hi => ?_⟩
  rw [List.length_append, List.length_singleton] at hi
  by_cases e : i < L.length
  · obtain ⟨a, b, c⟩ := h3 i e
    rw [sn_old e, sn_old e, sn_old e, a, b, c]
    simp [List.getD, List.getElem?_append_left (show i < D.length by omega), List.getElem?_append_left (show i < S.length by omega)]
  · obtain rfl : i = L.length := by omega
    have e0 : snB (L ++ [x]) L.length 0 = gzD (gzAt L L.length) x := by
      show gzD (gzAt (L ++ [x]) L.length) ((L ++ [x]).getD L.length 0) = _
      rw [gzAt_old _ (Nat.le_refl _), getD_new]
    have e1 : snB (L ++ [x]) L.length 1 = gzS (gzAt L L.length) x := by
      show gzS (gzAt (L ++ [x]) L.length) ((L ++ [x]).getD L.length 0) = _
      rw [gzAt_old _ (Nat.le_refl _), getD_new]
    have e2 : snB (L ++ [x]) L.length 2 = gzT (gzAt L L.length) x := by
      show gzT (gzAt (L ++ [x]) L.length) ((L ++ [x]).getD L.length 0) = _
      rw [gzAt_old _ (Nat.le_refl _), getD_new]
    rw [e0, e1, e2, hd, hs, ht, ← h1]
    refine ⟨by simp [List.getD], ?_, rfl⟩
    rw [h1, ← h2]
    simp [List.getD]

/-- The eye in the clear, for m ticks. -/
def PC (c : Int) (e : Gz) (m : Nat) : Prop :=
  e.bg = true ∧ e.ba = 64 * c ∧ e.sh = false ∧ e.ru = 0 ∧ 0 ≤ e.wt ∧ (e.wt = 0 ∨ e.wt + m ≤ 4) ∧ ((e.on = false ∧ e.rn = 0) ∨ (m = 1 ∧ e.on = true ∧ e.rn = 1))
/-- The eye in the dark, for m ticks. -/
def PD (c : Int) (e : Gz) (m : Nat) : Prop :=
  e.bg = true ∧ e.ba = 64 * c ∧ e.sh = true ∧ e.ru = m ∧ 1 ≤ m ∧ ((m = 1 ∧ e.on = false ∧ e.rn = 1 ∧ e.wt = 0) ∨ (2 ≤ m ∧ e.on = true ∧ e.rn = 0 ∧ 0 ≤ e.wt ∧ e.wt ≤ 4))
theorem dw4 {n : Int} (h0 : 0 ≤ n) (h1 : n ≤ 4) : dwV n = n := dw_in h0 h1
section
variable {c : Int} {e : Gz} {m : Nat}
theorem clear_first (c0 : 401 ≤ c) (c1 : c ≤ 4000) : PC c (gzN gz0 c) 1 ∧ gzD gz0 c = false ∧ gzS gz0 c = false ∧ gzT gz0 c = false := by
  have hB : eyB gz0.bg gz0.ba c = 64 * c := by unfold eyB; rw [if_neg (by decide), lg_in (by omega) (by omega)]
  have hS : gzS gz0 c = false := by
    unfold gzS eyS
    rw [hB, cb_in (by omega) (by omega), show 64 * c / 64 = c by omega]
    unfold shdB
    rw [sub_small (by omega) (by omega) (by omega) (by omega)]
    simp
  have hE : gzE gz0 c = false := by unfold gzE; rw [hS]; rfl
  refine ⟨⟨rfl, ?_, hS, ?_, ?_, ?_, ?_⟩, ?_, hS, ?_⟩
  · show eyN (eyB gz0.bg gz0.ba c) c (gzS gz0 c) = _
    rw [hS, hB]; unfold eyN amS
    rw [if_neg (by simp), cb_in (by omega) (by omega), lg_in (by omega) (by omega)]; omega
  · show sgV gz0.ru (gzS gz0 c) = 0
    rw [hS]; rfl
  · show 0 ≤ rfV gz0.wt (gzE gz0 c)
    rw [hE]; decide
  · left; show rfV gz0.wt (gzE gz0 c) = 0
    rw [hE]; decide
  · left
    refine ⟨?_, ?_⟩
    · show dbO gz0.on gz0.rn (gzS gz0 c) = false
      rw [hS]; rfl
    · show dbR gz0.on gz0.rn (gzS gz0 c) = 0
      rw [hS]; rfl
  · show rfB gz0.wt (gzE gz0 c) = false
    rw [hE]; decide
  · show decide (12 ≤ sgV gz0.ru (gzS gz0 c)) = false
    rw [hS]; decide
theorem clear_sees (hbg : e.bg = true) (hba : e.ba = 64 * c) (c0 : 401 ≤ c) (c1 : c ≤ 4000) : gzS e c = false ∧ (gzN e c).ba = 64 * c := by
  have hB : eyB e.bg e.ba c = 64 * c := by unfold eyB; rw [if_pos hbg, hba]
  have hS : gzS e c = false := by
    unfold gzS eyS
    rw [hB, cb_in (by omega) (by omega), show 64 * c / 64 = c by omega]
    unfold shdB
    rw [sub_small (by omega) (by omega) (by omega) (by omega)]
    simp
  refine ⟨hS, ?_⟩
  show eyN (eyB e.bg e.ba c) c (gzS e c) = _
  rw [hS, hB]; unfold eyN amS
  rw [if_neg (by simp), cb_in (by omega) (by omega), lg_in (by omega) (by omega)]; omega
theorem dark_sees {v : Int} (hbg : e.bg = true) (hba : e.ba = 64 * c) (c0 : 401 ≤ c) (c1 : c ≤ 4000) (v0 : 0 ≤ v) (v1 : v ≤ c - 400) : gzS e v = true ∧ (gzN e v).ba = 64 * c := by
  have hB : eyB e.bg e.ba v = 64 * c := by unfold eyB; rw [if_pos hbg, hba]
  have hS : gzS e v = true := by
    unfold gzS eyS
    rw [hB, cb_in (by omega) (by omega), show 64 * c / 64 = c by omega]
    unfold shdB
    rw [sub_small (by omega) (by omega) (by omega) (by omega), decide_eq_true (by omega), Bool.true_or]
  refine ⟨hS, ?_⟩
  show eyN (eyB e.bg e.ba v) v (gzS e v) = _
  rw [hS, hB]; unfold eyN
  rw [if_pos rfl, cb_in (by omega) (by omega)]
theorem clear_after (h : PD c e m) (hm : 2 ≤ m) (c0 : 401 ≤ c) (c1 : c ≤ 4000) : PC c (gzN e c) 1 ∧ gzD e c = false ∧ gzS e c = false ∧ gzT e c = false := by
  obtain ⟨q1, q2, q3, q4, q5, q6⟩ := h
  obtain ⟨_, q6, q7, q8, q9⟩ : 2 ≤ m ∧ e.on = true ∧ e.rn = 0 ∧ 0 ≤ e.wt ∧ e.wt ≤ 4 := by
    rcases q6 with ⟨h, _⟩ | h
    · omega
    · exact h
  obtain ⟨hS, hba⟩ := clear_sees q1 q2 c0 c1
  have hO : dbO e.on e.rn (gzS e c) = true := by rw [hS, q6, q7]; rfl
  have hR : dbR e.on e.rn (gzS e c) = 1 := by rw [hS, q6, q7]; rfl
  have hE : gzE e c = false := by unfold gzE; rw [hO, q6]; rfl
  have hW : (gzN e c).wt = if 0 < e.wt then e.wt - 1 else 0 := by
    show rfV e.wt (gzE e c) = _
    unfold rfV; rw [hE, dw4 q8 q9]; rfl
  refine ⟨⟨rfl, hba, hS, ?_, ?_, ?_, .inr ⟨rfl, hO, hR⟩⟩, ?_, hS, ?_⟩
  · show sgV e.ru (gzS e c) = 0
    rw [hS]; rfl
  · rw [hW]; split <;> omega
  · rw [hW]; split <;> omega
  · show rfB e.wt (gzE e c) = false
    unfold rfB; rw [hE, Bool.and_false]
  · show decide (12 ≤ sgV e.ru (gzS e c)) = false
    rw [hS]; rfl
theorem clear_more (h : PC c e m) (c0 : 401 ≤ c) (c1 : c ≤ 4000) (hm : 1 ≤ m) : PC c (gzN e c) (m + 1) ∧ gzD e c = false ∧ gzS e c = false ∧ gzT e c = false := by
  obtain ⟨q1, q2, q3, q4, q5, q6, q7⟩ := h
  obtain ⟨hS, hba⟩ := clear_sees q1 q2 c0 c1
  have hOR : dbO e.on e.rn (gzS e c) = false ∧ dbR e.on e.rn (gzS e c) = 0 := by
    rcases q7 with ⟨a, b⟩ | ⟨_, a, b⟩
    · rw [hS, a, b]; exact ⟨rfl, rfl⟩
    · rw [hS, a, b]; exact ⟨rfl, rfl⟩
  have hE : gzE e c = false := by unfold gzE; rw [hOR.1]; rfl
  have hw4 : e.wt ≤ 4 := by omega
  have hW : (gzN e c).wt = if 0 < e.wt then e.wt - 1 else 0 := by
    show rfV e.wt (gzE e c) = _
    unfold rfV; rw [hE, dw4 q5 hw4]; rfl
  refine ⟨⟨rfl, hba, hS, ?_, ?_, ?_, .inl ⟨hOR.1, hOR.2⟩⟩, ?_, hS, ?_⟩
  · show sgV e.ru (gzS e c) = 0
    rw [hS]; rfl
  · rw [hW]; split <;> omega
  · rw [hW]; split <;> omega
  · show rfB e.wt (gzE e c) = false
    unfold rfB; rw [hE, Bool.and_false]
  · show decide (12 ≤ sgV e.ru (gzS e c)) = false
    rw [hS]; rfl
theorem dark_first {v : Int} (h : PC c e m) (hm : 5 ≤ m) (c0 : 401 ≤ c) (c1 : c ≤ 4000) (v0 : 0 ≤ v) (v1 : v ≤ c - 400) : PD c (gzN e v) 1 ∧ gzD e v = false ∧ gzS e v = true ∧ gzT e v = false := by
  obtain ⟨q1, q2, q3, q4, q5, q6, q7⟩ := h
  obtain ⟨hS, hba⟩ := dark_sees q1 q2 c0 c1 v0 v1
  have hw : e.wt = 0 := by omega
  obtain ⟨a, b⟩ : e.on = false ∧ e.rn = 0 := by
    rcases q7 with h | ⟨h, _⟩
    · exact h
    · omega
  have hO : dbO e.on e.rn (gzS e v) = false := by rw [hS, a, b]; rfl
  have hR : dbR e.on e.rn (gzS e v) = 1 := by rw [hS, a, b]; rfl
  have hE : gzE e v = false := by unfold gzE; rw [hO]; rfl
  have hru : sgV e.ru (gzS e v) = 1 := by rw [hS, q4]; decide
  refine ⟨⟨rfl, hba, hS, hru, Nat.le_refl _, .inl ⟨rfl, hO, hR, ?_⟩⟩, ?_, hS, ?_⟩
  · show rfV e.wt (gzE e v) = 0
    rw [hE, hw]; decide
  · show rfB e.wt (gzE e v) = false
    rw [hE, hw]; decide
  · show decide (12 ≤ sgV e.ru (gzS e v)) = false
    rw [hru]; decide
theorem dark_more {v : Int} (h : PD c e m) (hm : m ≤ 10) (c0 : 401 ≤ c) (c1 : c ≤ 4000) (v0 : 0 ≤ v) (v1 : v ≤ c - 400) : PD c (gzN e v) (m + 1) ∧ gzD e v = decide (m = 1) ∧ gzS e v = true ∧ gzT e v = false := by
  obtain ⟨q1, q2, q3, q4, q5, q6⟩ := h
  obtain ⟨hS, hba⟩ := dark_sees q1 q2 c0 c1 v0 v1
  have hru : sgV e.ru (gzS e v) = (m : Int) + 1 := by
    rw [hS, q4, sg_in _ (by omega) (by omega), if_pos rfl]
  have hT : decide (12 ≤ sgV e.ru (gzS e v)) = false := by rw [hru]; exact decide_eq_false (by omega)
  rcases q6 with ⟨rfl, a, b, hw⟩ | ⟨h2, a, b, w0, w1⟩
  · have hO : dbO e.on e.rn (gzS e v) = true := by rw [hS, a, b]; rfl
    have hR : dbR e.on e.rn (gzS e v) = 0 := by rw [hS, a, b]; rfl
    have hE : gzE e v = true := by unfold gzE; rw [hO, a]; rfl
    refine ⟨⟨rfl, hba, hS, hru, by omega, .inr ⟨by omega, hO, hR, ?_, ?_⟩⟩, ?_, hS, hT⟩
    · show 0 ≤ rfV e.wt (gzE e v)
      rw [hE, hw]; decide
    · show rfV e.wt (gzE e v) ≤ 4
      rw [hE, hw]; decide
    · show rfB e.wt (gzE e v) = decide (1 = 1)
      rw [hE, hw]; decide
  · have hO : dbO e.on e.rn (gzS e v) = true := by rw [hS, a, b]; rfl
    have hR : dbR e.on e.rn (gzS e v) = 0 := by rw [hS, a, b]; rfl
    have hE : gzE e v = false := by unfold gzE; rw [hO, a]; rfl
    have hW : (gzN e v).wt = if 0 < e.wt then e.wt - 1 else 0 := by
      show rfV e.wt (gzE e v) = _
      unfold rfV; rw [hE, dw4 w0 w1]; rfl
    refine ⟨⟨rfl, hba, hS, hru, by omega, .inr ⟨by omega, hO, hR, ?_, ?_⟩⟩, ?_, hS, hT⟩
    · rw [hW]; split <;> omega
    · rw [hW]; split <;> omega
    · show rfB e.wt (gzE e v) = decide (m = 1)
      unfold rfB; rw [hE, Bool.and_false, decide_eq_false (by omega)]
end

/-- Dip i of a list. -/
def Dips (w : World) (A : Option Addr) (n : Nat) (R H K : Nat → Int) : Prop :=
  0 < n → ∃ b off, A = some ⟨b, off, Option.none⟩ ∧ b < w.heap.size ∧ ∀ i, i < n →
    (w.cell? ⟨b, off + i * 3, Option.none⟩ = some (.int .u16 (R i)) ∧ w.cell? ⟨b, off + i * 3 + 1, Option.none⟩ = some (.int .u16 (H i)) ∧ w.cell? ⟨b, off + i * 3 + 2, Option.none⟩ = some (.int .u16 (K i))) ∧ (0 ≤ R i ∧ R i ≤ 65535) ∧ (0 ≤ H i ∧ H i ≤ 65535) ∧ 0 ≤ K i ∧ K i ≤ 65535
theorem u16_bd {x : Int} (h : (Lit.int .u16 x).wf = true) : 0 ≤ x ∧ x ≤ 65535 := by
  simp only [Lit.wf, IntKind.min, IntKind.max, IntKind.signed, IntKind.bits, Bool.and_eq_true] at h; simpa using h
theorem dips_of {w : World} {A : Option Addr} {n : Nat} {rs : List (List Value)} (h : Rows [.int .u16, .int .u16, .int .u16] w A n rs) : ∃ R H K, Dips w A n R H K := by
  have hc : ∀ i, ∃ (r x q : Int), i < n → ((rs.getD i []).getD 0 undef = .int .u16 r ∧ (rs.getD i []).getD 1 undef = .int .u16 x ∧ (rs.getD i []).getD 2 undef = .int .u16 q) ∧ (0 ≤ r ∧ r ≤ 65535) ∧ (0 ≤ x ∧ x ≤ 65535) ∧ 0 ≤ q ∧ q ≤ 65535 := fun i => by
    by_cases h1 : i < n
    · obtain ⟨r, e0, w0⟩ : leafIs (.int .u16) _ := (h.2.1 i h1).2 0 _ rfl
      obtain ⟨x, e1, w1⟩ : leafIs (.int .u16) _ := (h.2.1 i h1).2 1 _ rfl
      obtain ⟨q, e2, w2⟩ : leafIs (.int .u16) _ := (h.2.1 i h1).2 2 _ rfl
      exact ⟨r, x, q, fun _ => ⟨⟨e0, e1, e2⟩, u16_bd w0, u16_bd w1, u16_bd w2⟩⟩
    · exact ⟨0, 0, 0, fun g => absurd g h1⟩
  let R := fun i => Classical.choose (hc i)
  let H := fun i => Classical.choose (Classical.choose_spec (hc i))
  let K := fun i => Classical.choose (Classical.choose_spec (Classical.choose_spec (hc i)))
  have hs : ∀ i, i < n → ((rs.getD i []).getD 0 undef = .int .u16 (R i) ∧ (rs.getD i []).getD 1 undef = .int .u16 (H i) ∧ (rs.getD i []).getD 2 undef = .int .u16 (K i)) ∧ (0 ≤ R i ∧ R i ≤ 65535) ∧ (0 ≤ H i ∧ H i ≤ 65535) ∧ 0 ≤ K i ∧ K i ≤ 65535 :=
    fun i => Classical.choose_spec (Classical.choose_spec (Classical.choose_spec (hc i)))
  refine ⟨R, H, K, fun h0 => ?_⟩
  obtain ⟨b, off, rfl, hlt, hcell⟩ := h.2.2 h0
  refine ⟨b, off, rfl, hlt, fun i hi => ?_⟩
  obtain ⟨⟨e0, e1, e2⟩, hr⟩ := hs i hi
  exact ⟨⟨(hcell i hi 0 (by simp)).trans (congrArg some e0), (hcell i hi 1 (by simp)).trans (congrArg some e1), (hcell i hi 2 (by simp)).trans (congrArg some e2)⟩, hr⟩

def Ph0 (c : Int) (L : List Int) : Prop := L = [] ∨ ∃ m, 2 ≤ m ∧ PD c (gzAt L L.length) m
def Ph1 (c : Int) (L : List Int) (j : Nat) : Prop := (j = 0 ∧ Ph0 c L) ∨ (1 ≤ j ∧ PC c (gzAt L L.length) j)
def Ph2 (c : Int) (L : List Int) (j : Nat) : Prop := (j = 0 ∧ ∃ m, 5 ≤ m ∧ PC c (gzAt L L.length) m) ∨ (1 ≤ j ∧ PD c (gzAt L L.length) j)
theorem at_push {L : List Int} {x : Int} : gzAt (L ++ [x]) (L ++ [x]).length = gzN (gzAt L L.length) x := by
  rw [List.length_append, List.length_singleton]; exact gzAt_new
theorem ph1_next {c : Int} {L : List Int} {D S : List Bool} {j : Nat} (h : Ph1 c L j) (ho : Ok L D S) (c0 : 401 ≤ c) (c1 : c ≤ 4000) : Ph1 c (L ++ [c]) (j + 1) ∧ Ok (L ++ [c]) (D ++ [false]) (S ++ [false]) := by
  rcases h with ⟨rfl, rfl | ⟨m, hm, h⟩⟩ | ⟨hj, h⟩
  · obtain ⟨a, b, d, e⟩ := clear_first c0 c1
    exact ⟨.inr ⟨by omega, by rw [at_push]; exact a⟩, ho.next b d e⟩
  · obtain ⟨a, b, d, e⟩ := clear_after h hm c0 c1
    exact ⟨.inr ⟨by omega, by rw [at_push]; exact a⟩, ho.next b d e⟩
  · obtain ⟨a, b, d, e⟩ := clear_more h c0 c1 hj
    exact ⟨.inr ⟨by omega, by rw [at_push]; exact a⟩, ho.next b d e⟩
theorem ph2_next {c v : Int} {L : List Int} {D S : List Bool} {j : Nat} (h : Ph2 c L j) (hj : j ≤ 10) (ho : Ok L D S) (c0 : 401 ≤ c) (c1 : c ≤ 4000) (v0 : 0 ≤ v) (v1 : v ≤ c - 400) : Ph2 c (L ++ [v]) (j + 1) ∧ Ok (L ++ [v]) (D ++ [decide (j = 1)]) (S ++ [true]) := by
  rcases h with ⟨rfl, m, hm, h⟩ | ⟨h1, h⟩
  · obtain ⟨a, b, d, e⟩ := dark_first h hm c0 c1 v0 v1
    exact ⟨.inr ⟨by omega, by rw [at_push]; exact a⟩, ho.next b d e⟩
  · obtain ⟨a, b, d, e⟩ := dark_more h hj c0 c1 v0 v1
    exact ⟨.inr ⟨by omega, by rw [at_push]; exact a⟩, ho.next b d e⟩

theorem tri_ne {w wr : World} {vl vd vs : Value} {L : List Int} {D S : List Bool} (h : Tri w wr vl vd vs L D S) : vl.ownBlock ≠ some wr.heap.size ∧ vd.ownBlock ≠ some wr.heap.size ∧ vs.ownBlock ≠ some wr.heap.size :=
  ⟨fun e => by have := (h.l.lt _ e).2; omega, fun e => by have := (h.d.lt _ e).2; omega, fun e => by have := (h.s.lt _ e).2; omega⟩
structure Far (g : Nat) (vl vd vs : Value) : Prop where
  l : vl.ownBlock ≠ some g
  d : vd.ownBlock ≠ some g
  s : vs.ownBlock ≠ some g
structure Bd (w : World) (g : Nat) (r s u : Int) : Prop where
  box : Box w g #[.int .u16 r, .int .u16 s, .int .u16 u]
theorem ph2_start {c : Int} {L : List Int} {j : Nat} (h : Ph1 c L j) (hj : 5 ≤ j) : Ph2 c L 0 := by
  rcases h with ⟨rfl, _⟩ | ⟨_, h⟩
  · omega
  · exact .inl ⟨rfl, j, hj, h⟩
theorem ph0_end {c : Int} {L : List Int} {j : Nat} (h : Ph2 c L j) (hj : 2 ≤ j) : Ph0 c L := by
  rcases h with ⟨rfl, _⟩ | ⟨_, h⟩
  · omega
  · exact .inr ⟨j, hj, h⟩

set_option maxHeartbeats 4000000 in
theorem walk (w : World) (lt : Int) (wl : (Lit.int .u16 lt).wf = true) (A : Option Addr) (n c : Nat) (rs : List (List Value)) (hi : Rows [.int .u16, .int .u16, .int .u16] w A n rs) (hc : n ≤ c) (hr : n * 6 ≤ 140737488351232) :
    Calls Try.prog 4 #[.int .u16 lt, .slice A n c] w fun e w' => e = .returned (.bool true) ∧ Below w.heap.size w w' := by
  have A0 : Below w.heap.size w w := Below.refl _ _
  by_cases hn : 30 < n
  · have t0 : decide (30 < (n : Int)) = true := decide_eq_true (by omega)
    clear hi
    go_enter Try.func4, Try.ntmps4
    go_wp2_with (go_at_call 12; refine (law22_awake w).mono ?_; rintro e w' ⟨rfl, hb⟩)
    go_ret
    exact ⟨rfl, hb⟩
  · have t0 : decide (30 < (n : Int)) = false := decide_eq_false (by omega)
    obtain ⟨R, H, K, hd⟩ := dips_of hi
    have HD := Lib.hid hd
    obtain ⟨b0, b1⟩ := u16_bd wl
    obtain ⟨X, hX⟩ : ∃ X : Int, 401 + lt % 3600 = X := ⟨_, rfl⟩
    have x0 : 401 ≤ X := by omega
    have x1 : X ≤ 4000 := by omega
    have wX : IntKind.i64.wrap X = X := by rw [IntKind.wrap_i64]; omega
    clear hi wl hd
    go_enter Try.func4, Try.ntmps4
    go_wp2
    go_loopg [6, 7, 8, 24] n (fun gk l d s i wr => ∃ (k : Nat) (L : List Int) (D S : List Bool), k ≤ n ∧ gk = n - k ∧ i = .int .i64 k ∧ Tri w wr l d s L D S ∧ Ok L D S ∧ L.length ≤ k * 55 ∧ Ph0 X L)
    case atStart => exact ⟨0, [], [], [], by omega, rfl, rfl, Tri.nil w, Ok.nil, by simp, .inl rfl⟩
    case round =>
      clear hX wX
      obtain ⟨k, L, D, S, hk, rfl, rfl, ht, ho, hl, hp⟩ := hrel
      by_cases hlt : k < n
      · obtain ⟨b, off, rfl, hbs, hcell⟩ := HD.out (by omega)
        obtain ⟨⟨q0, q1, q2⟩, ⟨r0, r1⟩, ⟨s0, s1⟩, u0, u1⟩ := hcell k hlt
        replace q0 := (ht.bel.cell (p := ⟨b, off + k * 3, none⟩) hbs).trans q0
        replace q1 := (ht.bel.cell (p := ⟨b, off + k * 3 + 1, none⟩) hbs).trans q1
        replace q2 := (ht.bel.cell (p := ⟨b, off + k * 3 + 2, none⟩) hbs).trans q2
        generalize R k = rk at *
        generalize H k = sk at *
        generalize K k = uk at *
        clear hcell
        obtain ⟨N1, hN1⟩ : ∃ N1 : Int, 5 + rk % 40 = N1 := ⟨_, rfl⟩
        have n10 : 5 ≤ N1 := by omega
        have n11 : N1 ≤ 44 := by omega
        have wN1 : IntKind.i64.wrap N1 = N1 := by rw [IntKind.wrap_i64]; omega
        have HT := Lib.hid ht
        have HO := Lib.hid ho
        have HP := Lib.hid hp
        clear ht ho hp
        go_wp2
        have HB := Lib.hid (show Bd (wr.alloc (.cells #[.int .u16 rk, .int .u16 sk, .int .u16 uk] 42)) wr.heap.size rk sk uk from ⟨box_new _ _ _⟩)
        have HF := Lib.hid (show Far wr.heap.size _ _ _ from ⟨(tri_ne HT.out).1, (tri_ne HT.out).2.1, (tri_ne HT.out).2.2⟩)
        have HT1 := Lib.hid (HT.out.below (w1 := wr.alloc (.cells #[.int .u16 rk, .int .u16 sk, .int .u16 uk] 42)) (below_alloc_on (Below.refl _ _) _))
        clear HT q0 q1 q2
        generalize wr.alloc (.cells #[.int .u16 rk, .int .u16 sk, .int .u16 uk] 42) = w0 at *
        generalize wr.heap.size = g at *
        clear hN1
        go_loopg [6, 7, 8, 36] N1.toNat (fun gk l d s i wr => ∃ (j : Nat) (L : List Int) (D S : List Bool), (j : Int) ≤ N1 ∧ gk = N1.toNat - j ∧ i = .int .i64 j ∧ Tri w wr l d s L D S ∧ Ok L D S ∧ L.length ≤ k * 55 + j ∧ Ph1 X L j ∧ Far g l d s ∧ Bd wr g rk sk uk)
        case atStart => exact ⟨0, L, D, S, by omega, by omega, rfl, HT1.out, HO.out, by omega, .inl ⟨rfl, HP.out⟩, HF.out, HB.out⟩
        case round =>
          clear HT1 HO HP HF HB hl L D S
          obtain ⟨j, L, D, S, hj, rfl, rfl, ht, ho, hl, hp, hf, hb⟩ := hrel
          by_cases hjl : (j : Int) < N1
          · have HN := Lib.hid (ph1_next hp ho x0 x1)
            have HO := Lib.hid ho
            have HT := Lib.hid ht
            have HF := Lib.hid hf
            have HB := Lib.hid hb
            have hsz := ht.bel.size
            have hll : L.length ≤ 17592186044414 := by omega
            clear hp ho ht hf hb
            go_wp2_with (at_builtin; refine app_int_at rfl _ _ rfl _ rfl rfl HT.out.l hsz hll ?_)
            intro l1 w1 h1 h2 h3
            have hsz1 : w.heap.size ≤ w1.heap.size := (HT.out.l_next h1 h2 h3).bel.size
            have HT1 := Lib.hid (HT.out.l_next h1 h2 h3)
            have HB1 := Lib.hid (show Bd w1 g rk sk uk from ⟨HB.out.box.grown (w := w) HF.out.l h2⟩)
            have HF1 := Lib.hid (show Far g l1 _ _ from ⟨moved_ne HF.out.l h3 (by have := HB.out.box.1; omega), HF.out.d, HF.out.s⟩)
            have hdl : D.length ≤ 17592186044414 := by rw [HO.out.1]; omega
            clear h1 h2 h3 HT HB HF
            go_wp2_with (at_builtin; refine app_truth_at rfl _ _ rfl _ rfl rfl HT1.out.d hsz1 hdl ?_)
            intro d1 w2 h1 h2 h3
            have hsz2 : w.heap.size ≤ w2.heap.size := (HT1.out.d_next h1 h2 h3).bel.size
            have HT2 := Lib.hid (HT1.out.d_next h1 h2 h3)
            have HB2 := Lib.hid (show Bd w2 g rk sk uk from ⟨HB1.out.box.grown (w := w) HF1.out.d h2⟩)
            have HF2 := Lib.hid (show Far g l1 d1 _ from ⟨HF1.out.l, moved_ne HF1.out.d h3 (by have := HB1.out.box.1; omega), HF1.out.s⟩)
            have hsl : S.length ≤ 17592186044414 := by rw [HO.out.2.1]; omega
            clear h1 h2 h3 HT1 HB1 HF1
            go_wp2_with (at_builtin; refine app_truth_at rfl _ _ rfl _ rfl rfl HT2.out.s hsz2 hsl ?_)
            intro s1 w3 h1 h2 h3
            have HT3 := Lib.hid (HT2.out.s_next h1 h2 h3)
            have HB3 := Lib.hid (show Bd w3 g rk sk uk from ⟨HB2.out.box.grown (w := w) HF2.out.s h2⟩)
            have HF3 := Lib.hid (show Far g l1 d1 s1 from ⟨HF2.out.l, HF2.out.d, moved_ne HF2.out.s h3 (by have := HB2.out.box.1; omega)⟩)
            clear h1 h2 h3 HT2 HB2 HF2
            go_wp2
            go_roundg (N1.toNat - (j + 1))
            case measure => omega
            case rel => exact ⟨j + 1, _, _, _, by omega, by omega, by go_num, HT3.out, HN.out.2, by simp; omega, HN.out.1, HF3.out, HB3.out⟩
          · obtain rfl : (j : Int) = N1 := by omega
            have HP2 := Lib.hid (ph2_start hp (by omega))
            have HO := Lib.hid ho
            have HT := Lib.hid ht
            have HF := Lib.hid hf
            have HB := Lib.hid hb
            have hlen : L.length ≤ k * 55 + 44 := by omega
            obtain ⟨c0, c1, c2, fr, hg⟩ := hb.box.three
            obtain ⟨N2, hN2⟩ : ∃ N2 : Int, 2 + sk % 10 = N2 := ⟨_, rfl⟩
            have n20 : 2 ≤ N2 := by omega
            have n21 : N2 ≤ 11 := by omega
            have wN2 : IntKind.i64.wrap N2 = N2 := by rw [IntKind.wrap_i64]; omega
            clear hp ho ht hf hb hl
            go_wp2
            clear c0 c1 c2 fr hg hN2 wN2 n10 n11 hjl hj wN1
            go_loopg [6, 7, 8, 54] N2.toNat (fun gk l d s i wr => ∃ (j : Nat) (L : List Int) (D S : List Bool), (j : Int) ≤ N2 ∧ gk = N2.toNat - j ∧ i = .int .i64 j ∧ Tri w wr l d s L D S ∧ Ok L D S ∧ L.length ≤ k * 55 + 44 + j ∧ Ph2 X L j ∧ Far g l d s ∧ Bd wr g rk sk uk)
            case atStart => exact ⟨0, L, D, S, by omega, by omega, rfl, HT.out, HO.out, by omega, HP2.out, HF.out, HB.out⟩
            case round =>
              clear HT HO HP2 HF HB hlen L D S
              obtain ⟨m, L, D, S, hj, rfl, rfl, ht, ho, hl, hp, hf, hb⟩ := hrel
              by_cases hjl : (m : Int) < N2
              · obtain ⟨Y, hY⟩ : ∃ Y : Int, X - 400 - uk = Y := ⟨_, rfl⟩
                obtain ⟨V, hway, v0, v1⟩ : ∃ V : Int, ((Y < 0 ∧ V = 0) ∨ (0 ≤ Y ∧ V = Y)) ∧ 0 ≤ V ∧ V ≤ X - 400 := by
                  by_cases h1 : Y < 0
                  · exact ⟨0, .inl ⟨h1, rfl⟩, by omega, by omega⟩
                  · exact ⟨Y, .inr ⟨by omega, rfl⟩, by omega, by omega⟩
                have HN := Lib.hid (ph2_next hp (show m ≤ 10 by omega) ho x0 x1 v0 v1)
                obtain ⟨db, hdb⟩ : ∃ db : Bool, ((m : Int) == 1) = db := ⟨_, rfl⟩
                have hdb2 : decide (m = 1) = db := by rw [← hdb, Bool.eq_iff_iff]; simp; omega
                rw [hdb2] at HN
                have HO := Lib.hid ho
                have HT := Lib.hid ht
                have HF := Lib.hid hf
                have HB := Lib.hid hb
                have hsz := ht.bel.size
                have hll : L.length ≤ 17592186044414 := by omega
                obtain ⟨c0, c1, c2, fr, hg⟩ := hb.box.three
                clear hp ho ht hf hb hdb2 v0 v1 c0 c1
                rcases hway with ⟨h1, rfl⟩ | ⟨h1, rfl⟩
                all_goals
                  go_wp2_with (at_builtin; refine app_int_at rfl _ _ rfl _ rfl rfl HT.out.l hsz hll ?_)
                  clear c2 fr hg hY h1
                  intro l1 w1 h1 h2 h3
                  have hsz1 : w.heap.size ≤ w1.heap.size := (HT.out.l_next h1 h2 h3).bel.size
                  have HT1 := Lib.hid (HT.out.l_next h1 h2 h3)
                  have HB1 := Lib.hid (show Bd w1 g rk sk uk from ⟨HB.out.box.grown (w := w) HF.out.l h2⟩)
                  have HF1 := Lib.hid (show Far g l1 _ _ from ⟨moved_ne HF.out.l h3 (by have := HB.out.box.1; omega), HF.out.d, HF.out.s⟩)
                  have hdl : D.length ≤ 17592186044414 := by rw [HO.out.1]; omega
                  clear h1 h2 h3 HT HB HF
                  go_wp2_with (at_builtin; refine app_truth_at rfl _ _ rfl _ rfl rfl HT1.out.d hsz1 hdl ?_)
                  intro d1 w2 h1 h2 h3
                  have hsz2 : w.heap.size ≤ w2.heap.size := (HT1.out.d_next h1 h2 h3).bel.size
                  have HT2 := Lib.hid (HT1.out.d_next h1 h2 h3)
                  have HB2 := Lib.hid (show Bd w2 g rk sk uk from ⟨HB1.out.box.grown (w := w) HF1.out.d h2⟩)
                  have HF2 := Lib.hid (show Far g l1 d1 _ from ⟨HF1.out.l, moved_ne HF1.out.d h3 (by have := HB1.out.box.1; omega), HF1.out.s⟩)
                  have hsl : S.length ≤ 17592186044414 := by rw [HO.out.2.1]; omega
                  clear h1 h2 h3 HT1 HB1 HF1
                  go_wp2_with (at_builtin; refine app_truth_at rfl _ _ rfl _ rfl rfl HT2.out.s hsz2 hsl ?_)
                  intro s1 w3 h1 h2 h3
                  have HT3 := Lib.hid (HT2.out.s_next h1 h2 h3)
                  have HB3 := Lib.hid (show Bd w3 g rk sk uk from ⟨HB2.out.box.grown (w := w) HF2.out.s h2⟩)
                  have HF3 := Lib.hid (show Far g l1 d1 s1 from ⟨HF2.out.l, HF2.out.d, moved_ne HF2.out.s h3 (by have := HB2.out.box.1; omega)⟩)
                  clear h1 h2 h3 HT2 HB2 HF2
                  go_wp2
                  go_roundg (N2.toNat - (m + 1))
                  case measure => omega
                  case rel => exact ⟨m + 1, _, _, _, by omega, by omega, by go_num, HT3.out, HN.out.2, by simp; omega, HN.out.1, HF3.out, HB3.out⟩
              · obtain rfl : (m : Int) = N2 := by omega
                have HP0 := Lib.hid (ph0_end hp (by omega))
                have HO := Lib.hid ho
                have HT := Lib.hid ht
                clear hp ho ht hf hb
                go_wp2
                go_roundg (n - (k + 1))
                case measure => omega
                case rel => exact ⟨k + 1, L, D, S, by omega, by omega, by go_num, HT.out, HO.out, by omega, HP0.out⟩
      · obtain rfl : k = n := by omega
        obtain ⟨B, e, hB, hle⟩ := own_form ht.l
        obtain ⟨BD, eD, hBD, hleD⟩ := own_form ht.d
        obtain ⟨BS, eS, hBS, hleS⟩ := own_form ht.s
        subst hB hBD hBS
        have hI := Ints.of_own ht.l rfl
        have HTD := Lib.hid (Truths.of_own ht.d rfl)
        have HTS := Lib.hid (Truths.of_own ht.s rfl)
        have hb := ht.bel
        have HOK := Lib.hid ho
        have hll : L.length ≤ 1650 := by omega
        have HL := Lib.hid (ey_look B L.length e L _ hI (by omega))
        obtain ⟨N, hN⟩ : ∃ N, L.length = N := ⟨_, rfl⟩
        clear hI ht ho hp hl
        have hD : D.length = N := by rw [HOK.out.1, hN]
        have hS : S.length = N := by rw [HOK.out.2.1, hN]
        rw [hN] at HL hll hle ⊢
        rw [hD] at HTD hleD ⊢
        rw [hS] at HTS hleS ⊢
        go_wp2_with (fail)
        refine HL.out.mono ?_
        rintro e w1 ⟨g, rfl, S1, hb1⟩
        have hb2 := below_call hb hb1
        have HTD1 := Lib.hid (HTD.out.below hb1)
        have HTS1 := Lib.hid (HTS.out.below hb1)
        clear hb hb1 HL HTD HTS
        go_wp2
        go_loopg [86] N (fun gk i wr => ∃ j : Nat, j ≤ N ∧ gk = N - j ∧ i = .int .i64 j ∧ Sees wr g N (snB L) ∧ Truths wr BD N D ∧ Truths wr BS N S ∧ Below w.heap.size w wr)
        case atStart => exact ⟨0, by omega, rfl, rfl, S1, HTD1.out, HTS1.out, hb2⟩
        case round =>
          clear S1 HTD1 HTS1 hb2
          obtain ⟨j, hj, rfl, rfl, S1, T1, T2, hb2⟩ := hrel
          by_cases hjl : j < N
          · obtain ⟨e0, e1, e2⟩ := HOK.out.2.2 j (by omega)
            have c0 : wr.cell? ⟨g, j * 4, none⟩ = some (.bool (snB L j 0)) := S1.cell j 0 hjl (by omega)
            have c1 : wr.cell? ⟨g, j * 4 + 1, none⟩ = some (.bool (snB L j 1)) := S1.cell j 1 hjl (by omega)
            have c2 : wr.cell? ⟨g, j * 4 + 2, none⟩ = some (.bool (snB L j 2)) := S1.cell j 2 hjl (by omega)
            have lS := S1.lt
            have SH := Lib.hid S1
            have TH1 := Lib.hid T1
            have TH2 := Lib.hid T2
            obtain ⟨bd, od, rfl, _, cd⟩ := T1.at_ hjl
            obtain ⟨bs, os, rfl, _, cs⟩ := T2.at_ hjl
            rw [e0] at c0
            rw [e1] at c1
            rw [e2] at c2
            clear S1 e0 e1 e2 T1 T2
            generalize D.getD j false = xd at *
            generalize S.getD j false = xs at *
            cases xd <;> cases xs
            all_goals
              go_wp2
              refine wp_region_calm (by kernel_rfl) (by kernel_rfl) ?_
              repeat (go_big_quiet_step ((fail)))
              refine wpQuiet_nil ?_
              intro _ hw'
              obtain ⟨u, rfl⟩ := hw'
              clear c0 c1 c2 cd cs
              go_wp2
              go_roundg (N - (j + 1))
              case measure => omega
              case rel => exact ⟨j + 1, by omega, by omega, by go_num, SH.out.below u.below, TH1.out.below u.below, TH2.out.below u.below, below_call hb2 u.below⟩
          · obtain rfl : j = N := by omega
            clear S1 T1 T2
            go_wp2_with (go_at_call 12; refine (law22_awake _).mono ?_; rintro e w' ⟨rfl, hb'⟩)
            go_ret
            exact ⟨rfl, below_call hb2 hb'⟩

set_option maxRecDepth 100000 in
theorem lifted (os : Os) (started : os.Started) (H : Type) (enc : TypeId × Value → H) :
    ReturnsInHanded {} Try.checked os 4 .any (Rows.eyeDipsSpec.pre6 enc Try.prog Try.f4 Rows.eyeDipsRow.domain false) (Rows.eyeDipsSpec.post enc Try.prog Try.f4 false true false false) := by
  refine law_lift started (by kernel_rfl) Try.func4 rfl rfl ?_ (by kernel_rfl)
    (ChangeSpec.witness6 (enc := enc) (C := Try.checked) false ⟨#[], #[.int .u16 0, .slice none 0 0], []⟩ 8 (by kernel_rfl) (by kernel_rfl) (by kernel_rfl) (by kernel_rfl)) ?_
  · intro ds hl
    match ds, hl with
    | [_, _], _ => exact ⟨rfl, rfl, rfl⟩
  · intro W base args ds p hval hA hlt hwt
    rw [Try.params4] at hA hval hwt
    obtain ⟨v0, vs0, d0, ds0, p0, q0, hargs, rfl, rfl, h0, r0⟩ := trodAll_cons hA
    obtain ⟨v1, vs1, d1, ds1, p1, q1, rfl, rfl, rfl, h1, r1⟩ := trodAll_cons r0
    obtain ⟨rfl, rfl, rfl⟩ := trodAll_nil r1
    obtain rfl : args = #[v0, v1] := by cases args; simp_all
    obtain ⟨a0, rfl, rfl, rfl, w0⟩ := open_int Try.underlying38 (hval 0 38 v0 rfl rfl) h0
    have wt1 : ∀ n ∈ d1.weights Try.prog 39, n ≤ reachBytes := fun n hn => by
      have := List.all_eq_true.1 hwt n (DataW.weights_mem_each (j := 1) (t := 39) (d := d1) rfl rfl n hn)
      simpa using this
    have lt1 : ∀ x ∈ p1, x.block < W.heap.size := fun x hx => hlt x (by simp [hx])
    obtain ⟨A1, n1, c1, xs1, rfl, hi1, hc1, hr1⟩ := open_rows_arg 5 [.int .u16, .int .u16, .int .u16] Try.underlying39 (by kernel_rfl) (by kernel_rfl) (by decide) (by kernel_rfl) (hval 1 39 v1 rfl rfl) h1 lt1 wt1
    exact walk W a0 w0 A1 n1 c1 xs1 hi1 hc1 hr1

theorem over : Rows.eyeDipsRow.holds Try.pinned (OpenSpec.ofChange Rows.eyeDipsSpec) :=
  OpenClaim.holds_of_wide 4 Try.f4 rfl rfl rfl rfl rfl rfl rfl ⟨rfl, rfl, rfl, rfl, rfl⟩ rfl rfl rfl rfl rfl (by kernel_rfl) Try.func4 (by kernel_rfl)
    (of_decide_eq_true (by kernel_rfl)) (by unfold Func.isWrapper; first | (rw [if_pos (by decide +kernel)]; kernel_rfl) | (rw [if_neg (by decide +kernel)]; exact ⟨rfl, rfl⟩))
    (fun os started H enc _ => lifted os started H enc)

theorem proved : Rows.EyeDipsSaid := over
#print axioms proved
end Go.Proofs.Ytkddledajffdbaa.eyeDips
