/- BeatSteady holds of every step, every place and every kind: drops that come regularly are told as just that rate; one that is missed, or seen twice, changes nothing. No condition. -/
import Derived.Test.YtidmoacjgbjlnaaLaw24
import Derived.Test.YtidmoacjgbjlnaaWorld
import Derived.Deep.LoopGhost
import Derived.Deep.CutBlock
import Derived.Deep.DeepCutAuto
namespace Go.Proofs.Ytidmoacjgbjlnaa.beatSteady
open Go.ChangeShapes Go.WideShapes Go.ChangeAt Go.RowKit
set_option linter.unusedVariables false
set_option linter.unusedSimpArgs false
set_option maxRecDepth 100000
attribute [local go_sem] cell_set_ite Near.cell Near.frozen

/-- Gaps that tell n: all of them, or all but two at the most of five or more. -/
def Gd (n : Int) (G : List Int) : Prop := (∀ x ∈ G, x = n) ∨ (5 ≤ G.length ∧ G.countP (fun x => decide (x ≠ n)) ≤ 2)
theorem Gd.nil (n : Int) : Gd n [] := .inl (by simp)
theorem count_all {n : Int} {G : List Int} (h : ∀ x ∈ G, x = n) : G.countP (fun x => decide (x ≠ n)) = 0 := by
  rw [List.countP_eq_zero]; intro a ha; simp [h a ha]
theorem Gd.next {n : Int} {G : List Int} (h : Gd n G) : Gd n (G ++ [n]) := by
  rcases h with h | ⟨h1, h2⟩
  · left
    intro x hx
    rcases List.mem_append.1 hx with hx | hx
    · exact h x hx
    · simpa using hx
  · right
    rw [List.length_append, List.countP_append]
    have : ([n].countP fun x => decide (x ≠ n)) = 0 := by simp
    simp only [List.length_singleton]; omega
theorem Gd.other {n x : Int} {G : List Int} (h : ∀ y ∈ G, y = n) (hl : 4 ≤ G.length) : Gd n (G ++ [x]) := by
  right
  rw [List.length_append, List.countP_append, count_all h]
  have : ([x].countP fun x => decide (x ≠ n)) ≤ 1 := List.countP_le_length
  simp only [List.length_singleton]; omega
theorem Gd.others {n x y : Int} {G : List Int} (h : ∀ y ∈ G, y = n) (hl : 4 ≤ G.length) : Gd n (G ++ [x] ++ [y]) := by
  right
  rw [List.length_append, List.length_append, List.countP_append, List.countP_append, count_all h]
  have h1 : ([x].countP fun x => decide (x ≠ n)) ≤ 1 := List.countP_le_length
  have h2 : ([y].countP fun x => decide (x ≠ n)) ≤ 1 := List.countP_le_length
  simp only [List.length_singleton]; omega
theorem mid_of {n a b c d e : Int} (hu : Up [a, b, c, d, e]) (hc : [a, b, c, d, e].countP (fun x => decide (x ≠ n)) ≤ 2) : c = n := by
  unfold Up at hu
  simp only [List.pairwise_cons, List.mem_cons, List.not_mem_nil, or_false, forall_eq_or_imp, forall_eq] at hu
  obtain ⟨⟨h1, h2, h3, h4⟩, ⟨h5, h6, h7⟩, ⟨h8, h9⟩, h10, _⟩ := hu
  rcases Int.lt_trichotomy c n with h | h | h
  · have e1 : a ≠ n := by omega
    have e2 : b ≠ n := by omega
    have e3 : c ≠ n := by omega
    simp [List.countP_cons, e1, e2, e3] at hc
  · exact h
  · have e1 : c ≠ n := by omega
    have e2 : d ≠ n := by omega
    have e3 : e ≠ n := by omega
    simp [List.countP_cons, e1, e2, e3] at hc
    exfalso
    split at hc <;> split at hc <;> omega
theorem five_of {S : List Int} (h : S.length = 5) : ∃ a b c d e, S = [a, b, c, d, e] := by
  match S, h with
  | [a, b, c, d, e], _ => exact ⟨a, b, c, d, e, rfl⟩
theorem mid_good {n : Int} {G : List Int} (h : Gd n G) (h0 : 0 < G.length) : midV G = n := by
  have hS : (lastL G 5).Sublist G := List.drop_sublist _ _
  have hp := sortL_perm (lastL G 5)
  have hl := fiveL_len G
  unfold midV
  rw [if_neg (by omega)]
  rcases h with h | ⟨h1, h2⟩
  · have hi : (min G.length 5 - 1) / 2 < (fiveL G).length := by rw [hl]; omega
    rw [List.getD_eq_getElem?_getD, List.getElem?_eq_getElem hi]
    exact h _ (hS.subset (hp.subset (List.getElem_mem hi)))
  · rw [show (min G.length 5 - 1) / 2 = 2 by omega]
    have hu := sortL_up (lastL G 5)
    have hc : (fiveL G).countP (fun x => decide (x ≠ n)) ≤ 2 := by
      have e1 : (fiveL G).countP (fun x => decide (x ≠ n)) = (lastL G 5).countP (fun x => decide (x ≠ n)) := hp.countP_eq _
      have := hS.countP_le (p := fun x => decide (x ≠ n))
      omega
    obtain ⟨a, b, c, d, e, hf⟩ := five_of (S := fiveL G) (by omega)
    rw [show sortL (lastL G 5) = fiveL G from rfl, hf] at hu
    rw [hf] at hc ⊢
    exact mid_of hu hc
theorem last_last (xs : List Int) : lastL (lastL xs 5) 5 = lastL xs 5 := by
  have h : (lastL xs 5).length ≤ 5 := by rw [lastL_len, five_cnt]; omega
  generalize lastL xs 5 = ys at *
  unfold lastL
  rw [five_cnt, show ys.length - min ys.length 5 = 0 by omega, List.drop_zero]
theorem mid_last (xs : List Int) : midV (lastL xs 5) = midV xs := by
  unfold midV fiveL
  rw [last_last, lastL_len, five_cnt]
  by_cases h : xs.length = 0
  · rw [if_pos (by omega), if_pos h]
  · rw [if_neg (by omega), if_neg h, show min (min xs.length 5) 5 = min xs.length 5 by omega]
theorem any_last (xs : List Int) : anyB (lastL xs 5).length = anyB xs.length := by
  unfold anyB; rw [lastL_len, five_cnt, decide_eq_decide]; omega
theorem last_snoc (G : List Int) (x : Int) : pushL (lastL G 5) 5 x = lastL (G ++ [x]) 5 := by
  unfold pushL
  rw [show roomN 5 = 5 by decide, if_neg (by omega), show ((5 : Nat) : Int) - 1 = 4 by decide]
  unfold lastL
  rw [List.drop_drop, List.length_drop, List.length_append, List.length_singleton]
  have e1 : cntV G.length 5 = min G.length 5 := five_cnt _
  have e2 : ∀ m : Nat, cntV m 4 = min m 4 := fun m => by unfold cntV; split <;> (try split) <;> omega
  have e3 : cntV (G.length + 1) 5 = min (G.length + 1) 5 := five_cnt _
  rw [e1, e2, e3]
  rw [List.drop_append_of_le_length (by omega)]
  congr 2
  omega
theorem sin_one (t : Int) : sinV t t = 1 := by
  unfold sinV subV
  rw [Int.sub_self, show clV 0 = 0 by decide]; rfl
theorem sin_in {t l : Int} (h0 : -1000000 ≤ l) (h1 : l < t) (h2 : t ≤ 100000000) : sinV t l = t - l := by
  unfold sinV subV
  have e1 : clV t = t := clV_in (by omega)
  have e2 : clV l = l := clV_in (by omega)
  have e3 : clV (t - l) = t - l := clV_in (by omega)
  rw [e1, e2, e3]; omega
theorem gap_good {n : Int} {G : List Int} (h : Gd n G) (hn : 1 ≤ n) (t : Int) : gapV true (lastL G 5).length (lastL G 5) t t = (if 0 < G.length then n else 0) ∧ gapB true (lastL G 5).length = decide (0 < G.length) := by
  have hb : gapB true (lastL G 5).length = decide (0 < G.length) := by unfold gapB; rw [any_last, Bool.true_and]; rfl
  refine ⟨?_, hb⟩
  unfold gapV
  rw [hb, mid_last, sin_one]
  by_cases h0 : 0 < G.length
  · rw [if_pos (by simpa using h0), if_pos h0, mid_good h h0]; omega
  · rw [if_neg (by simpa using h0), if_neg h0]
theorem sh_is {n : Int} (h0 : 1 ≤ n) : shB n 20 = true := by unfold shB; rw [show knB 20 = true by decide]; simpa using h0

/-- The gaps behind one drop more. -/
def nxG (q : Bool) (G : List Int) (x : Int) : List Int := if q = true then G ++ [x] else []
theorem tim_is {q : Bool} {G : List Int} {l t : Int} (h1 : q = true → -1000000 ≤ l ∧ l < t ∧ t ≤ 100000000) (h2 : q = false → G = []) : timV q (lastL G 5) l t = lastL (nxG q G (t - l)) 5 := by
  unfold timV nxG
  cases q
  · rw [h2 rfl]; rfl
  · obtain ⟨a, b, c⟩ := h1 rfl
    rw [if_pos rfl, if_pos rfl, sin_in a b c, last_snoc]
/-- A list of numbers of the call's own, behind block g. -/
def OwnL (w : World) (g : Nat) (B : Option Addr) (d : Nat) (xs : List Int) : Prop := w.ownsRow (g + 1) 3 1 (.slice B xs.length d) xs.length (xs.map (Value.int .i64))
theorem OwnL.ints {w : World} {g : Nat} {B : Option Addr} {d : Nat} {xs : List Int} (h : OwnL w g B d xs) : Ints w B xs.length xs := Ints.of_own h rfl
theorem OwnL.cap {w : World} {g : Nat} {B : Option Addr} {d : Nat} {xs : List Int} (h : OwnL w g B d xs) : xs.length ≤ d := by
  obtain ⟨B', d', e, hd⟩ := own_form h
  cases e; exact hd
theorem OwnL.below {w w' : World} {g : Nat} {B : Option Addr} {d : Nat} {xs : List Int} (h : OwnL w g B d xs) (hb : Below w.heap.size w w') : OwnL w' g B d xs := own_below h hb
theorem OwnL.far {w : World} {g : Nat} {B : Option Addr} {d : Nat} {xs : List Int} (h : OwnL w g B d xs) (o : Nat) (v : Value) : OwnL (w.setCell ⟨g, o, none⟩ v) g B d xs := own_far h (by simp) v

theorem st_step (q : Bool) (l : Int) (G : List Int) (t : Int) (g : Nat) (h1 : q = true → -1000000 ≤ l ∧ l < t ∧ t ≤ 100000000) (h2 : q = false → G = []) (B : Option Addr) (d : Nat) (w : World) (h : OwnL w g B d (lastL G 5)) (hg : g < w.heap.size) :
    Calls Try.prog 25 #[.agg #[.bool q, .int .i64 l, .slice B (lastL G 5).length d], .int .i64 t, .bool true] w fun e w' => ∃ B' d', e = .returned (.agg #[.bool true, .int .i64 t, .slice B' (lastL (nxG q G (t - l)) 5).length d']) ∧ OwnL w' g B' d' (lastL (nxG q G (t - l)) 5) ∧ Below w.heap.size w w' := by
  have h3 := bt_drop q l B (lastL G 5).length d (lastL G 5) t w h.ints h.cap (by rw [lastL_len, five_cnt]; omega)
  rw [tim_is h1 h2] at h3
  refine h3.mono fun e w' ⟨B', d', he, hd, ho, hb⟩ => ⟨B', d', he, own_base ho (by omega), hb⟩
theorem st_gap {n : Int} {G : List Int} (h : Gd n G) (hn : 1 ≤ n) (t : Int) (g : Nat) (B : Option Addr) (d : Nat) (w : World) (ho : OwnL w g B d (lastL G 5)) :
    Calls Try.prog 20 #[.agg #[.bool true, .int .i64 t, .slice B (lastL G 5).length d], .int .i64 t] w fun e w' => e = .returned (.tuple #[.int .i64 (if 0 < G.length then n else 0), .bool (decide (0 < G.length))]) ∧ Below w.heap.size w w' := by
  have h3 := bt_gap true t B (lastL G 5).length d (lastL G 5) t w ho.ints ho.cap (by rw [lastL_len, five_cnt]; omega)
  obtain ⟨e1, e2⟩ := gap_good h hn t
  rwa [e1, e2] at h3
theorem st_rate {n : Int} {G : List Int} (h : Gd n G) (hn : 1 ≤ n) (t : Int) (g : Nat) (B : Option Addr) (d : Nat) (w : World) (ho : OwnL w g B d (lastL G 5)) :
    Calls Try.prog 22 #[.agg #[.bool true, .int .i64 t, .slice B (lastL G 5).length d], .int .i64 t, .int .i64 20] w fun e w' => e = .returned (.tuple #[.int .i64 (if 0 < G.length then shV n 20 else 0), .bool (decide (0 < G.length))]) ∧ Below w.heap.size w w' := by
  have h3 := bt_rate true t B (lastL G 5).length d (lastL G 5) t 20 w ho.ints ho.cap (by rw [lastL_len, five_cnt]; omega)
  obtain ⟨e1, e2⟩ := gap_good h hn t
  have e3 : rtV true (lastL G 5).length (lastL G 5) t t 20 = if 0 < G.length then shV n 20 else 0 := by
    unfold rtV
    rw [e1, e2]
    by_cases h0 : 0 < G.length
    · rw [if_pos (by simpa using h0), if_pos h0, if_pos h0]
    · rw [if_neg (by simpa using h0), if_neg h0]
  have e4 : rtB true (lastL G 5).length (lastL G 5) t t 20 = decide (0 < G.length) := by
    unfold rtB
    rw [e1, e2]
    by_cases h0 : 0 < G.length
    · rw [if_pos h0, sh_is hn, Bool.and_true]
    · rw [decide_eq_false h0, Bool.false_and]
  rwa [e3, e4] at h3

/-- How it stands ahead of round j. -/
def Ph (n h : Int) (k : Nat) (c : Int) (j : Nat) (q : Bool) (l : Int) (G : List Int) : Prop :=
  (j = 0 ∧ q = false ∧ G = []) ∨
  (1 ≤ j ∧ q = true ∧ (∀ x ∈ G, x = n) ∧ G.length = j - 1 ∧ l = (j : Int) * n - n ∧ (j ≤ k ∨ c = 0)) ∨
  (c = 1 ∧ j = k + 1 ∧ q = true ∧ (∀ x ∈ G, x = n) ∧ G.length = k - 1 ∧ l = (j : Int) * n - n - n) ∨
  (c = 2 ∧ j = k + 1 ∧ q = true ∧ (∃ G1, G = G1 ++ [h] ∧ (∀ x ∈ G1, x = n) ∧ 4 ≤ G1.length) ∧ l = (j : Int) * n - n + h) ∨
  (c ≠ 0 ∧ k + 2 ≤ j ∧ q = true ∧ Gd n G ∧ 5 ≤ G.length ∧ l = (j : Int) * n - n)
theorem mul_next (j : Nat) (n : Int) : ((j + 1 : Nat) : Int) * n = (j : Int) * n + n := by
  rw [Int.natCast_add, Int.add_mul]; simp
/-- One drop, in its time. -/
theorem Ph.one {n h : Int} {k : Nat} {c : Int} {j : Nat} {q : Bool} {l : Int} {G : List Int} (hp : Ph n h k c j q l G) (hk : 5 ≤ k) (hn : 2 ≤ n) (hn1 : n ≤ 2000) (h0 : 1 ≤ h) (h1 : h < n) (hj0 : 0 ≤ (j : Int) * n) (hj1 : (j : Int) * n ≤ 100000) (hnot : ¬ (j = k ∧ c ≠ 0)) :
    (q = true → -1000000 ≤ l ∧ l < (j : Int) * n ∧ (j : Int) * n ≤ 100000000) ∧ (q = false → G = []) ∧ Gd n (nxG q G ((j : Int) * n - l)) ∧ (0 < (nxG q G ((j : Int) * n - l)).length ↔ 0 < j) ∧ Ph n h k c (j + 1) true ((j : Int) * n) (nxG q G ((j : Int) * n - l)) := by
  unfold nxG
  rcases hp with ⟨rfl, rfl, rfl⟩ | ⟨a, rfl, b, d, rfl, e⟩ | ⟨a, b, rfl, d, e, rfl⟩ | ⟨a, b, rfl, ⟨G1, rfl, d, e⟩, rfl⟩ | ⟨a, b, rfl, d, e, rfl⟩
  · refine ⟨(fun h => nomatch h), fun _ => rfl, Gd.nil n, by simp, .inr (.inl ⟨by omega, rfl, by simp, by simp, ?_, .inl (by omega)⟩)⟩
    rw [mul_next]; omega
  · rw [show (j : Int) * n - ((j : Int) * n - n) = n by omega, if_pos rfl]
    refine ⟨fun _ => ⟨by omega, by omega, by omega⟩, (fun h => nomatch h), (show Gd n G from .inl b).next, by simp; omega, ?_⟩
    have hall : ∀ x ∈ G ++ [n], x = n := fun x hx => by
      rcases List.mem_append.1 hx with hx | hx
      · exact b x hx
      · simpa using hx
    refine .inr (.inl ⟨by omega, rfl, hall, by rw [List.length_append, List.length_singleton]; omega, by rw [mul_next]; omega, ?_⟩)
    rcases e with e | e
    · by_cases hc : c = 0
      · exact .inr hc
      · exact .inl (by have : j ≠ k := fun h => hnot ⟨h, hc⟩; omega)
    · exact .inr e
  · rw [show (j : Int) * n - ((j : Int) * n - n - n) = n + n by omega, if_pos rfl]
    have hgd : Gd n (G ++ [n + n]) := Gd.other d (by omega)
    refine ⟨fun _ => ⟨by omega, by omega, by omega⟩, (fun h => nomatch h), hgd, by simp; omega, ?_⟩
    exact .inr (.inr (.inr (.inr ⟨by omega, by omega, rfl, hgd, by rw [List.length_append, List.length_singleton]; omega, by rw [mul_next]; omega⟩)))
  · rw [show (j : Int) * n - ((j : Int) * n - n + h) = n - h by omega, if_pos rfl]
    have hgd : Gd n (G1 ++ [h] ++ [n - h]) := Gd.others d e
    refine ⟨fun _ => ⟨by omega, by omega, by omega⟩, (fun h => nomatch h), hgd, by simp; omega, ?_⟩
    exact .inr (.inr (.inr (.inr ⟨by omega, by omega, rfl, hgd, by rw [List.length_append, List.length_append, List.length_singleton, List.length_singleton]; omega, by rw [mul_next]; omega⟩)))
  · rw [show (j : Int) * n - ((j : Int) * n - n) = n by omega, if_pos rfl]
    refine ⟨fun _ => ⟨by omega, by omega, by omega⟩, (fun h => nomatch h), d.next, by simp; omega, ?_⟩
    exact .inr (.inr (.inr (.inr ⟨by omega, by omega, rfl, d.next, by rw [List.length_append, List.length_singleton]; omega, by rw [mul_next]; omega⟩)))
/-- None, where one was due. -/
theorem Ph.skip {n h : Int} {k : Nat} {q : Bool} {l : Int} {G : List Int} (hp : Ph n h k 1 k q l G) (hk : 5 ≤ k) : Ph n h k 1 (k + 1) q l G := by
  rcases hp with ⟨a, _⟩ | ⟨a, rfl, b, d, e, f⟩ | ⟨a, b, _⟩ | ⟨a, b, _⟩ | ⟨a, b, _⟩
  · omega
  · refine .inr (.inr (.inl ⟨rfl, rfl, rfl, b, d, ?_⟩))
    rw [mul_next]; omega
  · omega
  · omega
  · omega
/-- Two, one of them between. -/
theorem Ph.two {n h : Int} {k : Nat} {q : Bool} {l : Int} {G : List Int} (hp : Ph n h k 2 k q l G) (hk : 5 ≤ k) (hn : 2 ≤ n) (hn1 : n ≤ 2000) (h0 : 1 ≤ h) (h1 : h < n) (hj0 : 0 ≤ (k : Int) * n) (hj1 : (k : Int) * n ≤ 100000) :
    (q = true → -1000000 ≤ l ∧ l < (k : Int) * n ∧ (k : Int) * n ≤ 100000000) ∧ (q = false → G = []) ∧
    Gd n (nxG true (nxG q G ((k : Int) * n - l)) h) ∧ 0 < (nxG true (nxG q G ((k : Int) * n - l)) h).length ∧ Ph n h k 2 (k + 1) true ((k : Int) * n + h) (nxG true (nxG q G ((k : Int) * n - l)) h) := by
  unfold nxG
  rcases hp with ⟨a, _⟩ | ⟨a, rfl, b, d, rfl, f⟩ | ⟨a, b, _⟩ | ⟨a, b, _⟩ | ⟨a, b, _⟩
  · omega
  · rw [show (k : Int) * n - ((k : Int) * n - n) = n by omega, if_pos rfl, if_pos rfl]
    have hall : ∀ x ∈ G ++ [n], x = n := fun x hx => by
      rcases List.mem_append.1 hx with hx | hx
      · exact b x hx
      · simpa using hx
    have hl : (G ++ [n]).length = G.length + 1 := by simp
    refine ⟨fun _ => ⟨by omega, by omega, by omega⟩, (fun h => nomatch h), Gd.other hall (by omega), by simp, ?_⟩
    exact .inr (.inr (.inr (.inl ⟨rfl, rfl, rfl, ⟨G ++ [n], rfl, hall, by omega⟩, by rw [mul_next]; omega⟩)))
  · omega
  · omega
  · omega

set_option maxHeartbeats 16000000 in
theorem walk (ev : Int) (wev : (Lit.int .u16 ev).wf = true) (a : Int) (wa : (Lit.int .u8 a).wf = true) (b : Int) (wb : (Lit.int .u8 b).wf = true) (w : World) :
    Calls Try.prog 6 #[.int .u16 ev, .int .u8 a, .int .u8 b] w fun e w' => e = .returned (.bool true) ∧ Below w.heap.size w w' := by
  have A : Below w.heap.size w w := Below.refl _ _
  have a0 : 0 ≤ ev ∧ ev ≤ 65535 := by simp only [Lit.wf, IntKind.min, IntKind.max, IntKind.signed, IntKind.bits, Bool.and_eq_true] at wev; simpa using wev
  have b0 : 0 ≤ a ∧ a ≤ 255 := by simp only [Lit.wf, IntKind.min, IntKind.max, IntKind.signed, IntKind.bits, Bool.and_eq_true] at wa; simpa using wa
  have c0 : 0 ≤ b ∧ b ≤ 255 := by simp only [Lit.wf, IntKind.min, IntKind.max, IntKind.signed, IntKind.bits, Bool.and_eq_true] at wb; simpa using wb
  obtain ⟨a0, a1⟩ := a0
  obtain ⟨b0, b1⟩ := b0
  obtain ⟨c0, c1⟩ := c0
  obtain ⟨n, hn⟩ : ∃ n : Int, 2 + ev % 1999 = n := ⟨_, rfl⟩
  have n0 : 2 ≤ n := by omega
  have n1 : n ≤ 2000 := by omega
  obtain ⟨k, hk⟩ : ∃ k : Nat, 5 + a % 10 = (k : Int) := ⟨(5 + a % 10).toNat, by omega⟩
  have k0 : 5 ≤ k := by omega
  have k1 : k ≤ 14 := by omega
  obtain ⟨h, hh⟩ : ∃ h : Int, n / 2 = h := ⟨_, rfl⟩
  have h0 : 1 ≤ h := by omega
  have h1 : h < n := by omega
  have HH := Lib.hid hh
  clear hh wev wa wb
  go_enter Try.func6, Try.ntmps6
  go_wp2
  have Bt0 := box_new w #[.bool false, .int .i64 0, .slice none 0 0] 36
  have A0 := below_alloc_on A (.cells #[.bool false, .int .i64 0, .slice none 0 0] 36)
  have O0 : OwnL (w.alloc (.cells #[.bool false, .int .i64 0, .slice none 0 0] 36)) w.heap.size none 0 (lastL [] 5) := World.ownsRow_nil _ _ _ _
  obtain ⟨g, hg⟩ : ∃ g, w.heap.size = g := ⟨_, rfl⟩
  have zg : w.heap.size ≤ g := by omega
  rw [hg] at Bt0 O0
  simp only [hg]
  clear hg A hn hk
  generalize w.alloc (.cells #[.bool false, .int .i64 0, .slice none 0 0] 36) = w0 at *
  go_loopg [29] (k + 12) (fun gk i wr => ∃ (j : Nat) (q : Bool) (l : Int) (G : List Int) (B : Option Addr) (d : Nat), j ≤ k + 12 ∧ gk = k + 12 - j ∧ i = .int .i64 j ∧ Below w.heap.size w wr ∧ Box wr g #[.bool q, .int .i64 l, .slice B (lastL G 5).length d] ∧ OwnL wr g B d (lastL G 5) ∧ Ph n h k (b % 3) j q l G)
  case atStart => exact ⟨0, false, 0, [], none, 0, by omega, rfl, rfl, A0, Bt0, O0, .inl ⟨rfl, rfl, rfl⟩⟩
  case round =>
    clear A0 Bt0 O0
    obtain ⟨j, q, l, G, B, d, hj, rfl, rfl, A, Bt, O, hph⟩ := hrel
    by_cases hlt : j < k + 12
    · have hj1 : (j : Int) * n ≤ 100000 := by
        have e1 : (j : Int) * n ≤ 26 * n := Int.mul_le_mul_of_nonneg_right (by omega) (by omega)
        omega
      have hj0 : 0 ≤ (j : Int) * n := Int.mul_nonneg (by omega) (by omega)
      have HOf := Lib.hid (show ∀ w, Calls Try.prog 27 #[.int .i64 n, .int .i64 20] w fun e w' => e = .returned (.tuple #[.int .i64 (shV n 20), .bool true]) ∧ Below w.heap.size w w' from fun w => by
        have h3 := rt_of n 20 w w (At.refl w)
        rwa [sh_is (by omega)] at h3)
      obtain ⟨S, hS⟩ : ∃ S, shV n 20 = S := ⟨_, rfl⟩
      rw [hS] at HOf
      have gw : g < wr.heap.size := Bt.1
      by_cases hskip : b % 3 = 1 ∧ j = k
      · obtain ⟨hb3, rfl⟩ := hskip
        rw [hb3] at hph
        have HPH := Lib.hid (hph.skip k0)
        rw [← hb3] at HPH
        clear hph hj0 hj1
        go_wp2
        go_roundg (j + 12 - (j + 1))
        case measure => omega
        case rel => exact ⟨j + 1, q, l, G, B, d, by omega, by omega, by go_num, A, Bt, O, HPH.out⟩
      · by_cases htwo : b % 3 = 2 ∧ j = k
        · obtain ⟨hb3, rfl⟩ := htwo
          have hb31 : (b % 3 == 1) = false := by rw [hb3]; rfl
          have hb32 : (b % 3 == 2) = true := by rw [hb3]; rfl
          rw [hb3] at hph
          obtain ⟨p1, p2, p3, p4, p5⟩ := hph.two k0 n0 n1 h0 h1 hj0 hj1
          rw [← hb3] at p5
          clear hb3
          obtain ⟨T, hT⟩ : ∃ T : Int, (j : Int) * n = T := ⟨_, rfl⟩
          rw [hT] at p1 p3 p4 p5 hj0 hj1
          obtain ⟨T2, hT2⟩ : ∃ T2 : Int, T + h = T2 := ⟨_, rfl⟩
          rw [hT2] at p5
          have HS := Lib.hid (st_step q l G T g p1 p2 B d)
          generalize nxG q G (T - l) = G1 at *
          have HS2 := fun B d => st_step true T G1 T2 g (fun _ => by omega) (fun h => nomatch h) B d
          rw [show T2 - T = h by omega] at HS2
          have HS2 := Lib.hid HS2
          generalize nxG true G1 h = G2 at *
          have HGap := fun B d w (ho : OwnL w g B d (lastL G2 5)) => st_gap p3 (show 1 ≤ n by omega) T2 g B d w ho
          have HRate := fun B d w (ho : OwnL w g B d (lastL G2 5)) => st_rate p3 (show 1 ≤ n by omega) T2 g B d w ho
          rw [if_pos p4, decide_eq_true p4] at HGap HRate
          rw [hS] at HRate
          have HGap := Lib.hid HGap
          have HRate := Lib.hid HRate
          have HPH := Lib.hid p5
          have hh := HH.out
          have hjp : decide (0 < (j : Int)) = true := decide_eq_true (by omega)
          have hjn : decide (0 < j) = true := decide_eq_true (by omega)
          clear hph p1 p2 p3 p4 p5 hS hskip
          obtain ⟨lB, cB, fB⟩ := id Bt
          go_wp2_with (fail)
          refine (HS.out _ O gw).mono ?_
          rintro e w2 ⟨B2, d2, rfl, O2, hb⟩
          replace A := below_call A hb
          replace Bt := Bt.below hb
          clear hb lB cB fB O
          obtain ⟨lB, cB, fB⟩ := id Bt
          have Bt3 := Lib.hid (Box.three_set Bt (.bool true) (.int .i64 T) (.slice B2 (lastL G1 5).length d2))
          have O3 := Lib.hid (((O2.far 0 (.bool true)).far 1 (.int .i64 T)).far 2 (.slice B2 (lastL G1 5).length d2))
          clear O2
          go_upto_region 11 with (fail)
          refine at_world (fun W => Below w.heap.size w W ∧ Box W g #[.bool true, .int .i64 T, .slice B2 (lastL G1 5).length d2] ∧ OwnL W g B2 d2 (lastL G1 5)) ⟨by (repeat (first | (with_reducible exact Below.refl _ _) | (with_reducible assumption) | (with_reducible refine Near.up _ ?_) | (with_reducible refine Below.drew ?_) | (with_reducible refine below_alloc_on ?_ _) | (with_reducible refine below_set_on ?_ (by first | (simp; done) | (simp; omega) | omega) _))), Bt3.out, O3.out⟩ ?_
          clear Bt3 O3 A Bt lB cB fB
          rintro w3 ⟨A, Bt, O⟩
          have gw3 : g < w3.heap.size := Bt.1
          obtain ⟨lB, cB, fB⟩ := id Bt
          go_wp2_with (fail)
          refine (HS2.out B2 d2 _ O gw3).mono ?_
          rintro e w4 ⟨B4, d4, rfl, O2, hb⟩
          replace A := below_call A hb
          replace Bt := Bt.below hb
          clear hb lB cB fB O
          obtain ⟨lB, cB, fB⟩ := id Bt
          have Bt3 := Lib.hid (Box.three_set Bt (.bool true) (.int .i64 T2) (.slice B4 (lastL G2 5).length d4))
          have O3 := Lib.hid (((O2.far 0 (.bool true)).far 1 (.int .i64 T2)).far 2 (.slice B4 (lastL G2 5).length d4))
          clear O2
          go_upto_region 14 with (fail)
          refine at_world (fun W => Below w.heap.size w W ∧ Box W g #[.bool true, .int .i64 T2, .slice B4 (lastL G2 5).length d4] ∧ OwnL W g B4 d4 (lastL G2 5)) ⟨by (repeat (first | (with_reducible exact Below.refl _ _) | (with_reducible assumption) | (with_reducible refine Near.up _ ?_) | (with_reducible refine Below.drew ?_) | (with_reducible refine below_alloc_on ?_ _) | (with_reducible refine below_set_on ?_ (by first | (simp; done) | (simp; omega) | omega) _))), Bt3.out, O3.out⟩ ?_
          clear Bt3 O3 A Bt lB cB fB
          rintro w8 ⟨A, Bt, O⟩
          obtain ⟨lB, cB, fB⟩ := id Bt
          go_wp2_with (fail)
          refine (HGap.out B4 d4 _ O).mono ?_
          rintro e w5 ⟨rfl, hb⟩
          replace A := below_call A hb
          replace Bt := Bt.below hb
          replace O := O.below hb
          clear hb lB cB fB
          obtain ⟨lB, cB, fB⟩ := id Bt
          go_wp2_with (fail)
          refine (HRate.out B4 d4 _ O).mono ?_
          rintro e w6 ⟨rfl, hb⟩
          replace A := below_call A hb
          replace Bt := Bt.below hb
          replace O := O.below hb
          clear hb lB cB fB
          obtain ⟨lB, cB, fB⟩ := id Bt
          go_wp2_with (fail)
          refine (HOf.out _).mono ?_
          rintro e w7 ⟨rfl, hb⟩
          replace A := below_call A hb
          replace Bt := Bt.below hb
          replace O := O.below hb
          clear hb lB cB fB
          go_wp2
          go_roundg (j + 12 - (j + 1))
          case measure => omega
          case rel => exact ⟨j + 1, true, T2, G2, B4, d4, by omega, by omega, by go_num, A, Bt, O, HPH.out⟩
        · have hnot : ¬ (j = k ∧ b % 3 ≠ 0) := by omega
          obtain ⟨p1, p2, p3, p4, p5⟩ := hph.one k0 n0 n1 h0 h1 hj0 hj1 hnot
          obtain ⟨T, hT⟩ : ∃ T : Int, (j : Int) * n = T := ⟨_, rfl⟩
          rw [hT] at p1 p3 p4 p5 hj0 hj1
          have HS := Lib.hid (st_step q l G T g p1 p2 B d)
          generalize nxG q G (T - l) = G1 at *
          have HGap := fun B d w (ho : OwnL w g B d (lastL G1 5)) => st_gap p3 (show 1 ≤ n by omega) T g B d w ho
          have HRate := fun B d w (ho : OwnL w g B d (lastL G1 5)) => st_rate p3 (show 1 ≤ n by omega) T g B d w ho
          rw [hS] at HRate
          obtain ⟨u, hu⟩ : ∃ u, (if 0 < G1.length then n else 0) = u := ⟨_, rfl⟩
          obtain ⟨v, hv⟩ : ∃ v, (if 0 < G1.length then S else 0) = v := ⟨_, rfl⟩
          obtain ⟨p, hp⟩ : ∃ p, decide (0 < G1.length) = p := ⟨_, rfl⟩
          rw [hu, hp] at HGap
          rw [hv, hp] at HRate
          have hjp : decide (0 < (j : Int)) = p := by rw [← hp, decide_eq_decide]; omega
          have hpt : p = true → u = n ∧ v = S := fun h => by
            have h4 : 0 < G1.length := by rw [h] at hp; simpa using hp
            rw [if_pos h4] at hu hv
            exact ⟨hu.symm, hv.symm⟩
          have HGap := Lib.hid HGap
          have HRate := Lib.hid HRate
          have HPH := Lib.hid p5
          have HPT := Lib.hid hpt
          have HJP := Lib.hid hjp
          clear hph p1 p2 p3 p4 p5 hS hu hv hp hpt hjp hnot
          go_upto_region 8 with (fail)
          clear hT
          go_cut [42, 29] from 29 to 109 (fun x i wx => x = .bool false ∧ i = .int .i64 (j : Nat) ∧ wr = wx)
          case first =>
            by_cases hc : b % 3 = 1
            · have q1 : (b % 3 == 1) = true := by simpa using hc
              have q2 : ((j : Int) == (k : Int)) = false := by simp; omega
              clear hc
              go_wp2
              go_meet
              exact ⟨rfl, rfl, rfl⟩
            · have q1 : (b % 3 == 1) = false := by simpa using hc
              clear hc
              go_wp2
              go_meet
              exact ⟨rfl, rfl, rfl⟩
          case rest =>
            obtain ⟨rfl, rfl, rfl⟩ := hcut
            obtain ⟨lB, cB, fB⟩ := id Bt
            go_wp2_with (fail)
            refine (HS.out _ O gw).mono ?_
            rintro e w2 ⟨B2, d2, rfl, O2, hb⟩
            replace A := below_call A hb
            replace Bt := Bt.below hb
            clear hb lB cB fB O
            obtain ⟨lB, cB, fB⟩ := id Bt
            have Bt3 := Lib.hid (Box.three_set Bt (.bool true) (.int .i64 T) (.slice B2 (lastL G1 5).length d2))
            have O3 := Lib.hid (((O2.far 0 (.bool true)).far 1 (.int .i64 T)).far 2 (.slice B2 (lastL G1 5).length d2))
            clear O2
            go_upto_region 11 with (fail)
            refine at_world (fun W => Below w.heap.size w W ∧ Box W g #[.bool true, .int .i64 T, .slice B2 (lastL G1 5).length d2] ∧ OwnL W g B2 d2 (lastL G1 5)) ⟨by (repeat (first | (with_reducible exact Below.refl _ _) | (with_reducible assumption) | (with_reducible refine Near.up _ ?_) | (with_reducible refine Below.drew ?_) | (with_reducible refine below_alloc_on ?_ _) | (with_reducible refine below_set_on ?_ (by first | (simp; done) | (simp; omega) | omega) _))), Bt3.out, O3.out⟩ ?_
            clear Bt3 O3 A Bt lB cB fB
            rintro w3 ⟨A, Bt, O⟩
            go_cut [54, 29] from 29 to 109 (fun x i wx => x = .bool false ∧ i = .int .i64 (j : Nat) ∧ w3 = wx)
            case first =>
              by_cases hc : b % 3 = 2
              · have q1 : (b % 3 == 2) = true := by simpa using hc
                have q2 : ((j : Int) == (k : Int)) = false := by simp; omega
                clear hc
                go_wp2
                go_meet
                exact ⟨rfl, rfl, rfl⟩
              · have q1 : (b % 3 == 2) = false := by simpa using hc
                clear hc
                go_wp2
                go_meet
                exact ⟨rfl, rfl, rfl⟩
            case rest =>
              obtain ⟨rfl, rfl, rfl⟩ := hcut
              have hjp := HJP.out
              have hjn : decide (0 < j) = p := by rw [← hjp, decide_eq_decide]; omega
              cases p
              · obtain ⟨lB, cB, fB⟩ := id Bt
                go_wp2_with (fail)
                refine (HGap.out B2 d2 _ O).mono ?_
                rintro e w5 ⟨rfl, hb⟩
                replace A := below_call A hb
                replace Bt := Bt.below hb
                replace O := O.below hb
                clear hb lB cB fB
                obtain ⟨lB, cB, fB⟩ := id Bt
                go_wp2_with (fail)
                refine (HRate.out B2 d2 _ O).mono ?_
                rintro e w6 ⟨rfl, hb⟩
                replace A := below_call A hb
                replace Bt := Bt.below hb
                replace O := O.below hb
                clear hb lB cB fB
                obtain ⟨lB, cB, fB⟩ := id Bt
                go_wp2_with (fail)
                refine (HOf.out _).mono ?_
                rintro e w7 ⟨rfl, hb⟩
                replace A := below_call A hb
                replace Bt := Bt.below hb
                replace O := O.below hb
                clear hb lB cB fB
                go_wp2
                go_roundg (k + 12 - (j + 1))
                case measure => omega
                case rel => exact ⟨j + 1, true, T, G1, B2, d2, by omega, by omega, by go_num, A, Bt, O, HPH.out⟩
              · obtain ⟨rfl, rfl⟩ := HPT.out rfl
                obtain ⟨lB, cB, fB⟩ := id Bt
                go_wp2_with (fail)
                refine (HGap.out B2 d2 _ O).mono ?_
                rintro e w5 ⟨rfl, hb⟩
                replace A := below_call A hb
                replace Bt := Bt.below hb
                replace O := O.below hb
                clear hb lB cB fB
                obtain ⟨lB, cB, fB⟩ := id Bt
                go_wp2_with (fail)
                refine (HRate.out B2 d2 _ O).mono ?_
                rintro e w6 ⟨rfl, hb⟩
                replace A := below_call A hb
                replace Bt := Bt.below hb
                replace O := O.below hb
                clear hb lB cB fB
                obtain ⟨lB, cB, fB⟩ := id Bt
                go_wp2_with (fail)
                refine (HOf.out _).mono ?_
                rintro e w7 ⟨rfl, hb⟩
                replace A := below_call A hb
                replace Bt := Bt.below hb
                replace O := O.below hb
                clear hb lB cB fB
                go_wp2
                go_roundg (k + 12 - (j + 1))
                case measure => omega
                case rel => exact ⟨j + 1, true, T, G1, B2, d2, by omega, by omega, by go_num, A, Bt, O, HPH.out⟩
    · obtain rfl : j = k + 12 := by omega
      clear hph O
      go_wp2_with (fail)
      refine (law24_awake _).mono ?_
      rintro e w2 ⟨rfl, hb⟩
      replace A : Below w.heap.size w w2 := by (refine below_call ?_ hb; (repeat (first | (with_reducible exact Below.refl _ _) | (with_reducible assumption) | (with_reducible refine Near.up _ ?_) | (with_reducible refine Below.drew ?_) | (with_reducible refine below_alloc_on ?_ _) | (with_reducible refine below_set_on ?_ (by first | (simp; done) | (simp; omega) | omega) _))))
      clear hb
      have z_w2 : w.heap.size ≤ w2.heap.size := A.size
      go_wp2
      go_ret
      exact ⟨rfl, A⟩

set_option maxRecDepth 100000 in
theorem lifted (os : Os) (started : os.Started) (H : Type) (enc : TypeId × Value → H) :
    ReturnsInHanded {} Try.checked os 6 .any (Rows.beatSteadySpec.pre6 enc Try.prog Try.f6 Rows.beatSteadyRow.domain false) (Rows.beatSteadySpec.post enc Try.prog Try.f6 false true false false) := by
  refine law_lift started (by kernel_rfl) Try.func6 rfl rfl ?_ (by kernel_rfl)
    (ChangeSpec.witness6 (enc := enc) (C := Try.checked) false ⟨#[], #[.int .u16 0, .int .u8 0, .int .u8 0], []⟩ 8 (by kernel_rfl) (by kernel_rfl) (by kernel_rfl) (by kernel_rfl)) ?_
  · intro ds hl
    match ds, hl with
    | [_, _, _], _ => exact ⟨rfl, rfl, rfl⟩
  · intro W base args ds p hval hA hlt hwt
    rw [Try.params6] at hA hval hwt
    obtain ⟨v0, vs0, d0, ds0, p0, q0, hargs, rfl, rfl, h0, r0⟩ := trodAll_cons hA
    obtain ⟨v1, vs1, d1, ds1, p1, q1, rfl, rfl, rfl, h1, r1⟩ := trodAll_cons r0
    obtain ⟨v2, vs2, d2, ds2, p2, q2, rfl, rfl, rfl, h2, r2⟩ := trodAll_cons r1
    obtain ⟨rfl, rfl, rfl⟩ := trodAll_nil r2
    obtain rfl : args = #[v0, v1, v2] := by cases args; simp_all
    obtain ⟨a0, rfl, rfl, rfl, w0⟩ := open_int Try.underlying25 (hval 0 25 v0 rfl rfl) h0
    obtain ⟨a1, rfl, rfl, rfl, w1⟩ := open_int Try.underlying5 (hval 1 5 v1 rfl rfl) h1
    obtain ⟨a2, rfl, rfl, rfl, w2⟩ := open_int Try.underlying5 (hval 2 5 v2 rfl rfl) h2
    exact walk a0 w0 a1 w1 a2 w2 W

theorem over : Rows.beatSteadyRow.holds Try.pinned (OpenSpec.ofChange Rows.beatSteadySpec) :=
  OpenClaim.holds_of_wide 6 Try.f6 rfl rfl rfl rfl rfl rfl rfl ⟨rfl, rfl, rfl, rfl, rfl⟩ rfl rfl rfl rfl rfl (by kernel_rfl) Try.func6 (by kernel_rfl)
    (of_decide_eq_true (by kernel_rfl)) (by unfold Func.isWrapper; first | (rw [if_pos (by decide +kernel)]; kernel_rfl) | (rw [if_neg (by decide +kernel)]; exact ⟨rfl, rfl⟩))
    (fun os started H enc _ => lifted os started H enc)

theorem proved : Rows.BeatSteadySaid := over
#print axioms proved
end Go.Proofs.Ytidmoacjgbjlnaa.beatSteady
