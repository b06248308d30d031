/- A formula's text: the word of a part, the part of a word; a numeral read back; a text cut at its blanks and put together again; what a text tells. Mathematics alone. -/
import Derived.Test.YtaccamlplikkfaaGreatDoorMonD
import Derived.Lib.AtoiTie
import Derived.Lib.ItoaMem
import Derived.Lib.ItoaLen
import Derived.Lib.IndexMore
namespace Go.Proofs.YtaccamlplikkfaaGreatDoor
set_option linter.unusedVariables false
set_option linter.unusedSimpArgs false
set_option maxRecDepth 100000

def wTrue : List UInt8 := [116, 114, 117, 101]
def wNot : List UInt8 := [110, 111, 116]
def wAnd : List UInt8 := [97, 110, 100]
def wOr : List UInt8 := [111, 114]
def wSince : List UInt8 := [115, 105, 110, 99, 101]
def wOnce : List UInt8 := [111, 110, 99, 101, 58]
def wAlways : List UInt8 := [97, 108, 119, 97, 121, 115, 58]
def wHazard : List UInt8 := [104, 97, 122, 97, 114, 100, 58]
def wLeast : List UInt8 := [62, 61]
def askL : List (List UInt8) := [[109, 111, 100, 101], [108, 97, 116, 99, 104], [110, 111, 116, 101, 115], [108, 101, 118, 101, 108], [98, 117, 122, 122, 101, 114], [111, 112, 101, 110], [112, 111, 115], [118, 111, 108, 117, 109, 101], [100, 114, 111, 112], [116, 105, 99, 107]]
/-- The word of what is asked. -/
def atomL (what least : Int) : List UInt8 := if what = 11 then wHazard ++ Lib.itoa least else askL.getD (what - 1).toNat [] ++ wLeast ++ Lib.itoa least
/-- The word of a part. -/
def wdL (t : Tm) : List UInt8 :=
  if t.op = 3 then wNot else if t.op = 4 then wAnd else if t.op = 5 then wOr else if t.op = 8 then wSince else if t.op = 6 then wOnce ++ Lib.itoa t.a else if t.op = 7 then wAlways ++ Lib.itoa t.a else if t.op = 2 then atomL t.a t.b else wTrue
/-- The number of digits; -1, if they are none. -/
def cntF (l : List UInt8) : Int := match Lib.atoiAll l with
  | .ok v => v
  | _ => -1
/-- What a word asks; 0, if it is none. -/
def askG : List (List UInt8) → Int → List UInt8 → Int
  | [], _, _ => 0
  | x :: r, k, l => if (l == x) = true then k else askG r (k + 1) l
theorem askG_step (x : List UInt8) (r : List (List UInt8)) (k : Int) (l : List UInt8) : askG (x :: r) k l = if (l == x) = true then k else askG r (k + 1) l := rfl
def askF (l : List UInt8) : Int := askG askL 1 l
def cutP (p l : List UInt8) : Option (List UInt8) := if p.isPrefixOf l = true then some (l.drop p.length) else none
/-- The part of a word. -/
def tmP (l : List UInt8) : Tm :=
  if l = wTrue then ⟨1, 0, 0⟩ else if l = wNot then ⟨3, 0, 0⟩ else if l = wAnd then ⟨4, 0, 0⟩ else if l = wOr then ⟨5, 0, 0⟩ else if l = wSince then ⟨8, 0, 0⟩ else
  match cutP wOnce l with
  | some d => ⟨6, cntF d, 0⟩
  | none => match cutP wAlways l with
    | some d => ⟨7, cntF d, 0⟩
    | none => match cutP wHazard l with
      | some d => ⟨2, 11, cntF d⟩
      | none => ⟨2, askF (Lib.cut l wLeast).1, cntF (Lib.cut l wLeast).2.1⟩

/-- Numerals: digits alone, and read back. -/
theorem dig_val (u : Nat) (h : u < 10) : Lib.digitVal (UInt8.ofNat (48 + u)) = some u := by
  match u, h with
  | 0, _ => rfl | 1, _ => rfl | 2, _ => rfl | 3, _ => rfl | 4, _ => rfl | 5, _ => rfl | 6, _ => rfl | 7, _ => rfl | 8, _ => rfl | 9, _ => rfl
theorem dec_app (l : List UInt8) : ∀ (acc m : Nat) (r : List UInt8), Lib.decFrom acc l = some m → Lib.decFrom acc (l ++ r) = Lib.decFrom m r := by
  induction l with
  | nil =>
    intro acc m r h
    cases h
    rfl
  | cons b l ih =>
    intro acc m r h
    unfold Lib.decFrom at h
    show (match Lib.digitVal b with | some d => Lib.decFrom (acc * 10 + d) (l ++ r) | none => none) = _
    cases hd : Lib.digitVal b with
    | none => rw [hd] at h; cases h
    | some d =>
      rw [hd] at h
      exact ih _ _ r h
theorem dec_back (u : Nat) : Lib.decFrom 0 (Lib.decDigits u) = some u := by
  induction u using Nat.strongRecOn with
  | _ u ih =>
    rw [Lib.decDigits]
    by_cases h : u < 10
    · rw [dif_pos h]
      show (match Lib.digitVal (UInt8.ofNat (48 + u)) with | some d => Lib.decFrom (0 * 10 + d) [] | none => none) = _
      rw [dig_val u h]
      show some (0 * 10 + u) = some u
      rw [Nat.zero_mul, Nat.zero_add]
    · rw [dif_neg h, dec_app _ 0 (u / 10) _ (ih (u / 10) (by omega))]
      show (match Lib.digitVal (UInt8.ofNat (48 + u % 10)) with | some d => Lib.decFrom (u / 10 * 10 + d) [] | none => none) = _
      rw [dig_val (u % 10) (by omega)]
      show some (u / 10 * 10 + u % 10) = some u
      congr 1
      omega
theorem dig_all (u : Nat) : ∀ c ∈ Lib.decDigits u, 48 ≤ c.toNat ∧ c.toNat ≤ 57 := by
  induction u using Nat.strongRecOn with
  | _ u ih =>
    rw [Lib.decDigits]
    have hd : ∀ v, v < 10 → 48 ≤ (UInt8.ofNat (48 + v)).toNat ∧ (UInt8.ofNat (48 + v)).toNat ≤ 57 := fun v hv => by
      match v, hv with
      | 0, _ => decide | 1, _ => decide | 2, _ => decide | 3, _ => decide | 4, _ => decide | 5, _ => decide | 6, _ => decide | 7, _ => decide | 8, _ => decide | 9, _ => decide
    by_cases h : u < 10
    · rw [dif_pos h]
      intro c hc
      rw [List.mem_singleton] at hc
      exact hc ▸ hd u h
    · rw [dif_neg h]
      intro c hc
      rcases List.mem_append.1 hc with hc | hc
      · exact ih (u / 10) (by omega) c hc
      · rw [List.mem_singleton] at hc
        exact hc ▸ hd (u % 10) (by omega)
theorem dig_some (u : Nat) : ∃ c r, Lib.decDigits u = c :: r := by
  cases h : Lib.decDigits u with
  | nil =>
    have := dec_back u
    rw [h] at this
    rw [Lib.decDigits] at h
    by_cases h9 : u < 10
    · rw [dif_pos h9] at h; cases h
    · rw [dif_neg h9] at h
      have := congrArg List.length h
      simp at this
  | cons c r => exact ⟨c, r, rfl⟩
theorem cnt_back (n : Int) (h0 : 0 ≤ n) (h1 : n ≤ 2147483647) : cntF (Lib.itoa n) = n := by
  obtain ⟨u, rfl⟩ : ∃ u : Nat, n = (u : Int) := ⟨n.toNat, by omega⟩
  rw [Lib.itoa_nonneg]
  obtain ⟨c, r, hc⟩ := dig_some u
  have hl : (Lib.decDigits u).length ≤ 18 := by
    rw [Lib.decDigits_eq, List.length_map, List.length_range]
    have : ∀ k v, v < 10 ^ k → 0 < k → Lib.nDigits v ≤ k := by
      intro k
      induction k with
      | zero => intro v _ h; omega
      | succ k ih =>
        intro v hv _
        by_cases h9 : v < 10
        · rw [Lib.nDigits_small h9]; omega
        · rw [Lib.nDigits_big h9]
          rw [Nat.pow_succ] at hv
          rcases Nat.eq_zero_or_pos k with rfl | hk
          · simp at hv; omega
          · have := ih (v / 10) (by omega) hk
            omega
    have := this 10 u (by omega) (by omega)
    omega
  unfold cntF
  rw [Lib.atoiAll_short _ hl]
  have hd := dig_all u
  have hb := dec_back u
  rw [hc] at hd hb ⊢
  have hcc := hd c (by simp)
  have n45 : (c == 45) = false := by
    rw [beq_eq_false_iff_ne]
    intro e; rw [e] at hcc; simp at hcc
  have n43 : (c == 43) = false := by
    rw [beq_eq_false_iff_ne]
    intro e; rw [e] at hcc; simp at hcc
  have e : Lib.atoi (c :: r) = some (u : Int) := by
    show (if (c == 45) = true then (Lib.decNat r).map (fun (m : Nat) => -(m : Int)) else if (c == 43) = true then (Lib.decNat r).map (fun (m : Nat) => (m : Int)) else (Lib.decNat (c :: r)).map (fun (m : Nat) => (m : Int))) = _
    rw [n45, n43]
    simp only [Bool.false_eq_true, if_false]
    unfold Lib.decNat
    rw [if_neg (by simp), hb]
    rfl
  rw [e]
  rfl
/-- The words read back. -/
theorem cutP_yes (p d : List UInt8) : cutP p (p ++ d) = some d := by
  unfold cutP
  rw [if_pos (by rw [List.isPrefixOf_iff_prefix]; exact List.prefix_append p d), List.drop_left]
theorem ask_cases (what : Int) (h1 : 1 ≤ what) (h2 : what ≤ 10) : what = 1 ∨ what = 2 ∨ what = 3 ∨ what = 4 ∨ what = 5 ∨ what = 6 ∨ what = 7 ∨ what = 8 ∨ what = 9 ∨ what = 10 := by omega
theorem cut_at (n d : List UInt8) (i : Nat) (h : Lib.index (n ++ (wLeast ++ d)) wLeast = (i : Int)) (hi : n.length = i) : Lib.cut (n ++ (wLeast ++ d)) wLeast = (n, d, true) := by
  unfold Lib.cut
  rw [h, if_pos (by omega), Int.toNat_natCast, ← hi]
  rw [List.take_left, show n.length + wLeast.length = (n ++ wLeast).length by simp, ← List.append_assoc, List.drop_left]
theorem tm_asked (n : List UInt8) (k : Int) (x : Int) (h0 : 0 ≤ x) (h1 : x ≤ 2147483647) (i : Nat) (hi : n.length = i) (ha : askF n = k)
    (hx : ∀ d, Lib.index (n ++ (wLeast ++ d)) wLeast = (i : Int))
    (hn : ∀ d, n ++ (wLeast ++ d) ≠ wTrue ∧ n ++ (wLeast ++ d) ≠ wNot ∧ n ++ (wLeast ++ d) ≠ wAnd ∧ n ++ (wLeast ++ d) ≠ wOr ∧ n ++ (wLeast ++ d) ≠ wSince)
    (hp : ∀ d, cutP wOnce (n ++ (wLeast ++ d)) = none ∧ cutP wAlways (n ++ (wLeast ++ d)) = none ∧ cutP wHazard (n ++ (wLeast ++ d)) = none) : tmP (n ++ wLeast ++ Lib.itoa x) = ⟨2, k, x⟩ := by
  rw [List.append_assoc]
  obtain ⟨a1, a2, a3, a4, a5⟩ := hn (Lib.itoa x)
  obtain ⟨b1, b2, b3⟩ := hp (Lib.itoa x)
  unfold tmP
  rw [if_neg a1, if_neg a2, if_neg a3, if_neg a4, if_neg a5, b1, b2, b3, cut_at n _ i (hx _) hi]
  show (⟨2, askF n, cntF (Lib.itoa x)⟩ : Tm) = _
  rw [ha, cnt_back x h0 h1]
set_option maxHeartbeats 2000000 in
theorem tm_wd (t : Tm) (h : myB t = true) : tmP (wdL t) = t := by
  obtain ⟨op, a, b⟩ := t
  have ways : op = 1 ∨ op = 2 ∨ op = 3 ∨ op = 4 ∨ op = 5 ∨ op = 6 ∨ op = 7 ∨ op = 8 ∨ (op ≠ 1 ∧ op ≠ 2 ∧ op ≠ 3 ∧ op ≠ 4 ∧ op ≠ 5 ∧ op ≠ 6 ∧ op ≠ 7 ∧ op ≠ 8) := by omega
  unfold myB at h
  simp only at h
  rcases ways with rfl | rfl | rfl | rfl | rfl | rfl | rfl | rfl | ⟨h1, h2, h3, h4, h5, h6, h7, h8⟩
  case inr.inr.inr.inr.inr.inr.inr.inr => simp [h1, h2, h3, h4, h5, h6, h7, h8] at h
  case inr.inl =>
    simp only [if_true] at h
    unfold akB at h
    show tmP (atomL a b) = _
    unfold atomL
    by_cases h11 : a = 11
    · subst h11
      simp only [if_true, Bool.and_eq_true, decide_eq_true_eq] at h ⊢
      have e0 : ∀ d, (wHazard ++ d = wTrue) = False ∧ (wHazard ++ d = wNot) = False ∧ (wHazard ++ d = wAnd) = False ∧ (wHazard ++ d = wOr) = False ∧ (wHazard ++ d = wSince) = False := fun d => by simp [wHazard, wTrue, wNot, wAnd, wOr, wSince]
      obtain ⟨e1, e2, e3, e4, e5⟩ := e0 (Lib.itoa b)
      unfold tmP
      simp only [e1, e2, e3, e4, e5, if_false]
      rw [show cutP wOnce (wHazard ++ Lib.itoa b) = none from rfl, show cutP wAlways (wHazard ++ Lib.itoa b) = none from rfl, cutP_yes]
      show (⟨2, 11, cntF (Lib.itoa b)⟩ : Tm) = _
      rw [cnt_back b (by omega) (by omega)]
    · rw [if_neg h11] at h ⊢
      simp only [Bool.and_eq_true, decide_eq_true_eq] at h
      obtain ⟨⟨⟨h1, h2⟩, h3⟩, h4⟩ := h
      rcases ask_cases a h1 h2 with rfl | rfl | rfl | rfl | rfl | rfl | rfl | rfl | rfl | rfl
      · exact tm_asked [109, 111, 100, 101] 1 b h3 h4 4 rfl (by decide) (fun d => by simp [Lib.index, wLeast, List.isPrefixOf]) (fun d => by simp [wLeast, wTrue, wNot, wAnd, wOr, wSince]) (fun d => ⟨rfl, rfl, rfl⟩)
      · exact tm_asked [108, 97, 116, 99, 104] 2 b h3 h4 5 rfl (by decide) (fun d => by simp [Lib.index, wLeast, List.isPrefixOf]) (fun d => by simp [wLeast, wTrue, wNot, wAnd, wOr, wSince]) (fun d => ⟨rfl, rfl, rfl⟩)
      · exact tm_asked [110, 111, 116, 101, 115] 3 b h3 h4 5 rfl (by decide) (fun d => by simp [Lib.index, wLeast, List.isPrefixOf]) (fun d => by simp [wLeast, wTrue, wNot, wAnd, wOr, wSince]) (fun d => ⟨rfl, rfl, rfl⟩)
      · exact tm_asked [108, 101, 118, 101, 108] 4 b h3 h4 5 rfl (by decide) (fun d => by simp [Lib.index, wLeast, List.isPrefixOf]) (fun d => by simp [wLeast, wTrue, wNot, wAnd, wOr, wSince]) (fun d => ⟨rfl, rfl, rfl⟩)
      · exact tm_asked [98, 117, 122, 122, 101, 114] 5 b h3 h4 6 rfl (by decide) (fun d => by simp [Lib.index, wLeast, List.isPrefixOf]) (fun d => by simp [wLeast, wTrue, wNot, wAnd, wOr, wSince]) (fun d => ⟨rfl, rfl, rfl⟩)
      · exact tm_asked [111, 112, 101, 110] 6 b h3 h4 4 rfl (by decide) (fun d => by simp [Lib.index, wLeast, List.isPrefixOf]) (fun d => by simp [wLeast, wTrue, wNot, wAnd, wOr, wSince]) (fun d => ⟨rfl, rfl, rfl⟩)
      · exact tm_asked [112, 111, 115] 7 b h3 h4 3 rfl (by decide) (fun d => by simp [Lib.index, wLeast, List.isPrefixOf]) (fun d => by simp [wLeast, wTrue, wNot, wAnd, wOr, wSince]) (fun d => ⟨rfl, rfl, rfl⟩)
      · exact tm_asked [118, 111, 108, 117, 109, 101] 8 b h3 h4 6 rfl (by decide) (fun d => by simp [Lib.index, wLeast, List.isPrefixOf]) (fun d => by simp [wLeast, wTrue, wNot, wAnd, wOr, wSince]) (fun d => ⟨rfl, rfl, rfl⟩)
      · exact tm_asked [100, 114, 111, 112] 9 b h3 h4 4 rfl (by decide) (fun d => by simp [Lib.index, wLeast, List.isPrefixOf]) (fun d => by simp [wLeast, wTrue, wNot, wAnd, wOr, wSince]) (fun d => ⟨rfl, rfl, rfl⟩)
      · exact tm_asked [116, 105, 99, 107] 10 b h3 h4 4 rfl (by decide) (fun d => by simp [Lib.index, wLeast, List.isPrefixOf]) (fun d => by simp [wLeast, wTrue, wNot, wAnd, wOr, wSince]) (fun d => ⟨rfl, rfl, rfl⟩)
  case inr.inr.inr.inr.inr.inl =>
    simp at h
    obtain ⟨⟨h1, h2⟩, rfl⟩ := h
    show tmP (wOnce ++ Lib.itoa a) = _
    have e0 : ∀ d, (wOnce ++ d = wTrue) = False ∧ (wOnce ++ d = wNot) = False ∧ (wOnce ++ d = wAnd) = False ∧ (wOnce ++ d = wOr) = False ∧ (wOnce ++ d = wSince) = False := fun d => by simp [wOnce, wTrue, wNot, wAnd, wOr, wSince]
    obtain ⟨e1, e2, e3, e4, e5⟩ := e0 (Lib.itoa a)
    unfold tmP
    simp only [e1, e2, e3, e4, e5, if_false]
    rw [cutP_yes]
    show (⟨6, cntF (Lib.itoa a), 0⟩ : Tm) = _
    rw [cnt_back a (by omega) (by omega)]
  case inr.inr.inr.inr.inr.inr.inl =>
    simp at h
    obtain ⟨⟨h1, h2⟩, rfl⟩ := h
    show tmP (wAlways ++ Lib.itoa a) = _
    have e0 : ∀ d, (wAlways ++ d = wTrue) = False ∧ (wAlways ++ d = wNot) = False ∧ (wAlways ++ d = wAnd) = False ∧ (wAlways ++ d = wOr) = False ∧ (wAlways ++ d = wSince) = False := fun d => by simp [wAlways, wTrue, wNot, wAnd, wOr, wSince]
    obtain ⟨e1, e2, e3, e4, e5⟩ := e0 (Lib.itoa a)
    unfold tmP
    simp only [e1, e2, e3, e4, e5, if_false]
    rw [show cutP wOnce (wAlways ++ Lib.itoa a) = none from rfl, cutP_yes]
    show (⟨7, cntF (Lib.itoa a), 0⟩ : Tm) = _
    rw [cnt_back a (by omega) (by omega)]
  all_goals
    simp at h
    obtain ⟨rfl, rfl⟩ := h
    rfl
/-- No word holds a blank. -/
theorem itoa_no (n : Int) (h0 : 0 ≤ n) : ∀ c ∈ Lib.itoa n, c ≠ 32 := by
  obtain ⟨u, rfl⟩ : ∃ u : Nat, n = (u : Int) := ⟨n.toNat, by omega⟩
  rw [Lib.itoa_nonneg]
  intro c hc e
  have := dig_all u c hc
  rw [e] at this
  simp at this
theorem wd_no (t : Tm) (h : myB t = true) : ∀ c ∈ wdL t, c ≠ 32 := by
  obtain ⟨op, a, b⟩ := t
  have app : ∀ (x y : List UInt8), (∀ c ∈ x, c ≠ 32) → (∀ c ∈ y, c ≠ 32) → ∀ c ∈ x ++ y, c ≠ 32 := fun x y hx hy c hc => by
    rcases List.mem_append.1 hc with hc | hc
    · exact hx c hc
    · exact hy c hc
  have cl : ∀ (x : List UInt8), (x.all fun c => c != 32) = true → ∀ c ∈ x, c ≠ 32 := fun x hx c hc => by
    have := List.all_eq_true.1 hx c hc
    simpa using this
  unfold myB at h
  simp only at h
  unfold wdL
  simp only
  split
  · exact cl _ (by decide)
  split
  · exact cl _ (by decide)
  split
  · exact cl _ (by decide)
  split
  · exact cl _ (by decide)
  split
  · rename_i h6
    subst h6
    simp at h
    exact app _ _ (cl _ (by decide)) (itoa_no a h.1.1)
  split
  · rename_i h7
    subst h7
    simp at h
    exact app _ _ (cl _ (by decide)) (itoa_no a h.1.1)
  split
  · rename_i h2
    subst h2
    simp only [if_true] at h
    unfold akB at h
    unfold atomL
    split
    · rename_i h11
      rw [if_pos h11] at h
      simp only [Bool.and_eq_true, decide_eq_true_eq] at h
      exact app _ _ (cl _ (by decide)) (itoa_no b (by omega))
    · rename_i h11
      rw [if_neg h11] at h
      simp only [Bool.and_eq_true, decide_eq_true_eq] at h
      refine app _ _ (app _ _ ?_ (cl _ (by decide))) (itoa_no b h.1.2)
      rcases ask_cases a h.1.1.1 h.1.1.2 with rfl | rfl | rfl | rfl | rfl | rfl | rfl | rfl | rfl | rfl
      all_goals exact cl _ (by decide)
  · exact cl _ (by decide)
/-- A text cut at its blanks, and put together. -/
def splS : List UInt8 → List (List UInt8)
  | [] => [[]]
  | c :: r => if c = 32 then [] :: splS r else match splS r with
    | [] => [[c]]
    | x :: xs => (c :: x) :: xs
def joiS : List (List UInt8) → List UInt8
  | [] => []
  | [x] => x
  | x :: y :: r => x ++ 32 :: joiS (y :: r)
theorem spl_some (s : List UInt8) : ∃ x xs, splS s = x :: xs := by
  induction s with
  | nil => exact ⟨[], [], rfl⟩
  | cons c r ih =>
    obtain ⟨x, xs, h⟩ := ih
    unfold splS
    by_cases e : c = 32
    · rw [if_pos e]; exact ⟨_, _, rfl⟩
    · rw [if_neg e, h]; exact ⟨_, _, rfl⟩
theorem joi_spl (s : List UInt8) : joiS (splS s) = s := by
  induction s with
  | nil => rfl
  | cons c r ih =>
    obtain ⟨x, xs, h⟩ := spl_some r
    unfold splS
    rw [h] at ih ⊢
    by_cases e : c = 32
    · rw [if_pos e, e]
      show [] ++ 32 :: joiS (x :: xs) = _
      rw [ih]; rfl
    · rw [if_neg e]
      cases xs with
      | nil =>
        show c :: x = _
        rw [show x = r from ih]
      | cons y ys =>
        show (c :: x) ++ 32 :: joiS (y :: ys) = _
        rw [← ih]
        rfl
theorem spl_app (x : List UInt8) (hx : ∀ c ∈ x, c ≠ 32) (s : List UInt8) : splS (x ++ 32 :: s) = x :: splS s := by
  induction x with
  | nil =>
    show (if (32 : UInt8) = 32 then ([] : List UInt8) :: splS s else match splS s with | [] => [[32]] | x :: xs => (32 :: x) :: xs) = _
    rw [if_pos rfl]
  | cons c r ih =>
    have h1 := ih (fun d hd => hx d (by simp [hd]))
    show (if c = 32 then ([] : List UInt8) :: splS (r ++ 32 :: s) else match splS (r ++ 32 :: s) with | [] => [[c]] | x :: xs => (c :: x) :: xs) = _
    rw [if_neg (hx c (by simp)), h1]
theorem spl_none (x : List UInt8) (hx : ∀ c ∈ x, c ≠ 32) : splS x = [x] := by
  induction x with
  | nil => rfl
  | cons c r ih =>
    have h1 := ih (fun d hd => hx d (by simp [hd]))
    unfold splS
    rw [if_neg (hx c (by simp)), h1]
theorem spl_joi : ∀ (ws : List (List UInt8)), ws ≠ [] → (∀ x ∈ ws, ∀ c ∈ x, c ≠ 32) → splS (joiS ws) = ws
  | [], h, _ => absurd rfl h
  | [x], _, hx => spl_none x (hx x (by simp))
  | x :: y :: r, _, hx => by
    show splS (x ++ 32 :: joiS (y :: r)) = _
    rw [spl_app x (hx x (by simp)), spl_joi (y :: r) (by simp) (fun z hz => hx z (by simp [hz]))]
/-- What the pieces of a text tell: the parts; or which error: 1 a piece that is no word, 2 too many, 3 no formula. -/
def paF (right : List Tm → Bool) : List (List UInt8) → List Tm → List Tm × Nat
  | [], acc => if right acc = true then (acc, 0) else ([], 3)
  | p :: r, acc => if myB (tmP p) = true ∧ wdL (tmP p) = p then (if acc.length = 40 then ([], 2) else paF right r (acc ++ [tmP p])) else ([], 1)
theorem pa_told (right : List Tm → Bool) : ∀ (l acc : List Tm), (∀ t ∈ l, myB t = true) → acc.length + l.length ≤ 40 → right (acc ++ l) = true → paF right (l.map wdL) acc = (acc ++ l, 0)
  | [], acc, _, _, hr => by
    rw [List.append_nil] at hr ⊢
    show (if right acc = true then (acc, 0) else ([], 3)) = _
    rw [if_pos hr]
  | t :: l, acc, hm, hl, hr => by
    have ht := hm t (by simp)
    have e := tm_wd t ht
    simp at hl
    show (if myB (tmP (wdL t)) = true ∧ wdL (tmP (wdL t)) = wdL t then (if acc.length = 40 then ([], 2) else paF right (l.map wdL) (acc ++ [tmP (wdL t)])) else ([], 1)) = _
    rw [e, if_pos ⟨ht, rfl⟩, if_neg (by omega), pa_told right l (acc ++ [t]) (fun u hu => hm u (by simp [hu])) (by simp; omega) (by simpa using hr)]
    simp
theorem pa_back (right : List Tm → Bool) : ∀ (ps : List (List UInt8)) (acc n : List Tm), paF right ps acc = (n, 0) → ∃ l, n = acc ++ l ∧ l.map wdL = ps ∧ right n = true ∧ (∀ t ∈ l, myB t = true)
  | [], acc, n, h => by
    unfold paF at h
    split at h
    · rename_i hr
      cases h
      exact ⟨[], by simp, rfl, hr, by simp⟩
    · cases h
  | p :: r, acc, n, h => by
    unfold paF at h
    split at h
    · rename_i hw
      split at h
      · cases h
      · obtain ⟨l, h1, h2, h3, h4⟩ := pa_back right r _ n h
        refine ⟨tmP p :: l, by rw [h1]; simp, by rw [List.map_cons, h2, hw.2], h3, fun t ht => ?_⟩
        rcases List.mem_cons.1 ht with rfl | ht
        · exact hw.1
        · exact h4 t ht
    · cases h
end Go.Proofs.YtaccamlplikkfaaGreatDoor
