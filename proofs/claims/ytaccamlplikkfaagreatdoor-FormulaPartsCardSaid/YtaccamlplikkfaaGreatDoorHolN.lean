/- What a formula means, and how its parts lie: mathematics. -/
import Derived.Test.YtaccamlplikkfaaGreatDoorMonD
namespace Go.Proofs.YtaccamlplikkfaaGreatDoor
open Go.RowKit
set_option linter.unusedVariables false
set_option linter.unusedSimpArgs false
set_option maxRecDepth 100000

theorem hk_at (ts : Nat → Tm) {k n : Nat} (h : k < n) (hn : okB ts n = true) : myB (ts k) = true ∧ ndN (ts k).op ≤ rdN ts k := by
  have h1 := ok_down ts (k := k + 1) h hn
  unfold okB at h1
  cases hm : myB (ts k)
  · rw [hm] at h1; simp at h1
  · rw [hm] at h1
    refine ⟨rfl, ?_⟩
    by_cases hd : ndN (ts k).op ≤ rdN ts k
    · exact hd
    · rw [decide_eq_false hd] at h1; simp at h1

/-- What a formula is. -/
inductive Mn where
  | whole
  | atom (what least : Int)
  | hazard (bit : Int)
  | not (a : Mn)
  | both (a b : Mn)
  | either (a b : Mn)
  | once (a : Mn) (back : Int)
  | always (a : Mn) (back : Int)
  | since (a b : Mn)
/-- The last place up to k at which it is wanted so; or one far ahead of all. -/
def ltV (f : Nat → Bool) (wanted : Bool) : Nat → Int
  | 0 => if f 0 = wanted then 0 else -1001
  | k + 1 => if f (k + 1) = wanted then ((k + 1 : Nat) : Int) else ltV f wanted k
theorem lt_congr {f g : Nat → Bool} {b : Bool} : ∀ {k : Nat}, (∀ i, i ≤ k → f i = g i) → ltV f b k = ltV g b k
  | 0, h => by unfold ltV; rw [h 0 (Nat.le_refl _)]
  | k + 1, h => by
    unfold ltV
    rw [h (k + 1) (Nat.le_refl _), lt_congr (k := k) (fun i hi => h i (by omega))]
theorem lt_bd (f : Nat → Bool) (b : Bool) : ∀ k : Nat, -1001 ≤ ltV f b k ∧ ltV f b k ≤ k
  | 0 => by unfold ltV; split <;> simp
  | k + 1 => by
    have := lt_bd f b k
    unfold ltV
    split <;> omega
theorem lt_two (f : Nat → Bool) (b : Bool) : ∀ k : Nat, ltV f b k = -1001 ∨ 0 ≤ ltV f b k
  | 0 => by unfold ltV; split <;> simp
  | k + 1 => by
    have := lt_two f b k
    unfold ltV
    split <;> omega
/-- Whether it is so in a place. -/
def soM (os : Nat → Ou) : Mn → Nat → Bool
  | .whole, _ => true
  | .atom what least, k => decide (least ≤ askV (os k) what)
  | .hazard bit, k => !(bits .and .i64 (os k).latch bit == 0)
  | .not a, k => !(soM os a k)
  | .both a b, k => soM os a k && soM os b k
  | .either a b, k => soM os a k || soM os b k
  | .once a back, k => decide ((k : Int) - ltV (soM os a) true k ≤ back)
  | .always a back, k => decide (back < (k : Int) - ltV (soM os a) false k)
  | .since a b, k => decide (0 ≤ ltV (soM os b) true k) && decide (ltV (soM os a) false k ≤ ltV (soM os b) true k)
theorem so_congr {os os' : Nat → Ou} : ∀ (m : Mn) {k : Nat}, (∀ i, i ≤ k → os i = os' i) → soM os m k = soM os' m k
  | .whole, _, _ => rfl
  | .atom _ _, k, h => by unfold soM; rw [h k (Nat.le_refl _)]
  | .hazard _, k, h => by unfold soM; rw [h k (Nat.le_refl _)]
  | .not a, k, h => by unfold soM; rw [so_congr a h]
  | .both a b, k, h => by unfold soM; rw [so_congr a h, so_congr b h]
  | .either a b, k, h => by unfold soM; rw [so_congr a h, so_congr b h]
  | .once a _, k, h => by unfold soM; rw [lt_congr (fun i hi => so_congr a (fun j hj => h j (by omega)))]
  | .always a _, k, h => by unfold soM; rw [lt_congr (fun i hi => so_congr a (fun j hj => h j (by omega)))]
  | .since a b, k, h => by
    unfold soM
    rw [lt_congr (fun i hi => so_congr a (fun j hj => h j (by omega))), lt_congr (fun i hi => so_congr b (fun j hj => h j (by omega)))]

/-- What a part is, by what it needs. -/
def aloM (t : Tm) : Mn := if t.op = 1 then .whole else if t.a = 11 then .hazard t.b else .atom t.a t.b
def unaM (t : Tm) (a : Mn) : Mn := if t.op = 6 then .once a t.a else if t.op = 7 then .always a t.a else .not a
def binM (op : Int) (a b : Mn) : Mn := if op = 4 then .both a b else if op = 5 then .either a b else .since a b
def pshM (t : Tm) (S : List Mn) : List Mn := if ndN t.op = 0 then aloM t :: S else if ndN t.op = 1 then unaM t (S.getD 0 .whole) :: S.drop 1 else binM t.op (S.getD 1 .whole) (S.getD 0 .whole) :: S.drop 2
/-- What is ready behind k parts. -/
def rnM (ts : Nat → Tm) (S : List Mn) : Nat → List Mn
  | 0 => S
  | k + 1 => pshM (ts k) (rnM ts S k)
/-- What a formula of n parts means. -/
def mnF (ts : Nat → Tm) (n : Nat) : Mn := (rnM ts [] n).getD 0 .whole
def from_ (ts : Nat → Tm) (b : Nat) : Nat → Tm := fun i => ts (b + i)
theorem rn_congr {ts us : Nat → Tm} {S : List Mn} : ∀ {k : Nat}, (∀ i, i < k → ts i = us i) → rnM ts S k = rnM us S k
  | 0, _ => rfl
  | k + 1, h => by unfold rnM; rw [h k (by omega), rn_congr (fun i hi => h i (by omega))]
theorem rd_congr {ts us : Nat → Tm} : ∀ {k : Nat}, (∀ i, i < k → ts i = us i) → rdN ts k = rdN us k
  | 0, _ => rfl
  | k + 1, h => by unfold rdN; rw [h k (by omega), rd_congr (fun i hi => h i (by omega))]
theorem ok_congr {ts us : Nat → Tm} : ∀ {k : Nat}, (∀ i, i < k → ts i = us i) → okB ts k = okB us k
  | 0, _ => rfl
  | k + 1, h => by unfold okB; rw [h k (by omega), ok_congr (fun i hi => h i (by omega)), rd_congr (us := us) (k := k) (fun i hi => h i (by omega))]
theorem rt_congr {ts us : Nat → Tm} {n : Nat} (h : ∀ i, i < n → ts i = us i) : rtB ts n = rtB us n := by
  unfold rtB; rw [ok_congr h, rd_congr h]
theorem mn_congr {ts us : Nat → Tm} {n : Nat} (h : ∀ i, i < n → ts i = us i) : mnF ts n = mnF us n := by
  unfold mnF; rw [rn_congr h]
theorem nd_ways (op : Int) : ndN op = 0 ∨ ndN op = 1 ∨ ndN op = 2 := by have := nd_le op; omega
/-- Behind parts that are right there are so many ready. -/
theorem rn_len (ts : Nat → Tm) (S : List Mn) : ∀ {k : Nat}, okB ts k = true → (rnM ts S k).length = rdN ts k + S.length
  | 0, _ => by simp [rnM, rdN]
  | k + 1, h => by
    obtain ⟨_, hd⟩ := hk_at ts (Nat.lt_succ_self k) h
    have ih := rn_len ts S (ok_down ts (Nat.le_succ k) h)
    unfold rnM pshM rdN
    rcases nd_ways (ts k).op with e | e | e
    · rw [if_pos e, e]; simp [ih]; omega
    · rw [if_neg (by omega), if_pos e, e]; simp [ih]; omega
    · rw [if_neg (by omega), if_neg (by omega), e]; simp [ih]; omega
theorem psh_app (t : Tm) (T S : List Mn) (h : ndN t.op ≤ T.length) : pshM t (T ++ S) = pshM t T ++ S := by
  unfold pshM
  rcases nd_ways t.op with e | e | e
  · rw [if_pos e, if_pos e]; rfl
  · rw [if_neg (by omega), if_pos e, if_neg (by omega), if_pos e]
    match T, h with
    | [], h => simp at h; omega
    | a :: r, _ => simp
  · rw [if_neg (by omega), if_neg (by omega), if_neg (by omega), if_neg (by omega)]
    match T, h with
    | [], h => simp at h; omega
    | [a], h => simp at h; omega
    | a :: b :: r, _ => simp
theorem rn_app (ts : Nat → Tm) (S : List Mn) : ∀ {k : Nat}, okB ts k = true → rnM ts S k = rnM ts [] k ++ S
  | 0, _ => by simp [rnM]
  | k + 1, h => by
    obtain ⟨_, hd⟩ := hk_at ts (Nat.lt_succ_self k) h
    have hk := ok_down ts (Nat.le_succ k) h
    have ih := rn_app ts S hk
    have hl := rn_len ts [] hk
    show pshM (ts k) (rnM ts S k) = pshM (ts k) (rnM ts [] k) ++ S
    rw [ih, psh_app _ _ _ (by rw [hl]; simpa using hd)]
theorem rn_split (ts : Nat → Tm) (S : List Mn) (b : Nat) : ∀ k : Nat, rnM ts S (b + k) = rnM (from_ ts b) (rnM ts S b) k
  | 0 => rfl
  | k + 1 => by
    show pshM (ts (b + k)) (rnM ts S (b + k)) = pshM (from_ ts b k) (rnM (from_ ts b) (rnM ts S b) k)
    rw [rn_split ts S b k]; rfl
theorem rd_pos (ts : Nat → Tm) {k : Nat} (h0 : 0 < k) (h : okB ts k = true) : 1 ≤ rdN ts k := by
  match k, h0 with
  | k + 1, _ =>
    obtain ⟨_, hd⟩ := hk_at ts (Nat.lt_succ_self k) h
    unfold rdN; omega
theorem rd_next (ts : Nat → Tm) {k n : Nat} (hk : k < n) (h : okB ts n = true) : rdN ts (k + 1) + ndN (ts k).op = rdN ts k + 1 := by
  obtain ⟨_, hd⟩ := hk_at ts hk h
  show rdN ts k + 1 - ndN (ts k).op + ndN (ts k).op = _
  omega
/-- A stretch of parts behind whose first ones there is never less ready than ahead of them: it is right for itself. -/
theorem from_ok (ts : Nat → Tm) {b e n : Nat} (he : e ≤ n) (h : okB ts n = true) (hq : ∀ q, b < q → q ≤ e → rdN ts b < rdN ts q) : ∀ k, b + k ≤ e → okB (from_ ts b) k = true ∧ rdN (from_ ts b) k + rdN ts b = rdN ts (b + k)
  | 0, _ => ⟨rfl, by show 0 + _ = _; simp⟩
  | k + 1, hk => by
    obtain ⟨i1, i2⟩ := from_ok ts he h hq k (by omega)
    obtain ⟨hm, hd⟩ := hk_at ts (k := b + k) (n := n) (by omega) h
    have hx := rd_next ts (k := b + k) (n := n) (by omega) h
    have hl := hq (b + k + 1) (by omega) (by omega)
    have hn : ndN (from_ ts b k).op ≤ rdN (from_ ts b) k := by
      show ndN (ts (b + k)).op ≤ _
      omega
    refine ⟨?_, ?_⟩
    · show (okB (from_ ts b) k && (myB (from_ ts b k) && decide _)) = true
      rw [i1, decide_eq_true hn]
      show (true && (myB (ts (b + k)) && true)) = true
      rw [hm]; rfl
    · show rdN (from_ ts b) k + 1 - ndN (from_ ts b k).op + rdN ts b = rdN ts (b + k + 1)
      have e3 : (from_ ts b k).op = (ts (b + k)).op := rfl
      rw [e3] at hn ⊢
      omega
theorem rt_parts {ts : Nat → Tm} {n : Nat} (h : rtB ts n = true) : n ≤ 40 ∧ okB ts n = true ∧ rdN ts n = 1 := by
  unfold rtB at h
  simpa using h
theorem rt_of {ts : Nat → Tm} {n : Nat} (h1 : n ≤ 40) (h2 : okB ts n = true) (h3 : rdN ts n = 1) : rtB ts n = true := by
  unfold rtB; rw [decide_eq_true h1, h2, decide_eq_true h3]; rfl
theorem rt_pos {ts : Nat → Tm} {n : Nat} (h : rtB ts n = true) : 1 ≤ n := by
  have := rt_parts h
  have := rdN_le ts n
  omega
/-- A formula whose last part needs none is that part. -/
theorem mn_alone {ts : Nat → Tm} {e : Nat} (h : rtB ts (e + 1) = true) (hn : ndN (ts e).op = 0) : e = 0 ∧ mnF ts (e + 1) = aloM (ts e) := by
  obtain ⟨_, ho, hr⟩ := rt_parts h
  have hx := rd_next ts (Nat.lt_succ_self e) ho
  refine ⟨?_, ?_⟩
  · rcases Nat.eq_zero_or_pos e with h0 | h0
    · exact h0
    · have := rd_pos ts h0 (ok_down ts (Nat.le_succ e) ho)
      omega
  · show (pshM (ts e) _).getD 0 _ = _
    unfold pshM
    rw [if_pos hn]; rfl
theorem mn_una {ts : Nat → Tm} {e : Nat} (h : rtB ts (e + 1) = true) (hn : ndN (ts e).op = 1) : rtB ts e = true ∧ mnF ts (e + 1) = unaM (ts e) (mnF ts e) := by
  obtain ⟨h40, ho, hr⟩ := rt_parts h
  have hx := rd_next ts (Nat.lt_succ_self e) ho
  refine ⟨rt_of (by omega) (ok_down ts (Nat.le_succ e) ho) (by omega), ?_⟩
  show (pshM (ts e) _).getD 0 _ = _
  unfold pshM
  rw [if_neg (by omega), if_pos hn]; rfl
/-- One that needs two: where the second one begins. -/
theorem mn_bin {ts : Nat → Tm} {e b : Nat} (h : rtB ts (e + 1) = true) (hn : ndN (ts e).op = 2) (hb : b < e) (hd : rdN ts b + 1 = rdN ts e) (hq : ∀ q, b < q → q ≤ e → rdN ts e ≤ rdN ts q) :
    rtB ts b = true ∧ rtB (from_ ts b) (e - b) = true ∧ mnF ts (e + 1) = binM (ts e).op (mnF ts b) (mnF (from_ ts b) (e - b)) := by
  obtain ⟨h40, ho, hr⟩ := rt_parts h
  have hx := rd_next ts (Nat.lt_succ_self e) ho
  have hob := ok_down ts (show b ≤ e + 1 by omega) ho
  obtain ⟨f1, f2⟩ := from_ok ts (Nat.le_succ e) ho (b := b) (fun q h1 h2 => by have := hq q h1 h2; omega) (e - b) (by omega)
  have e1 : b + (e - b) = e := by omega
  rw [e1] at f2
  have l1 := rn_len ts [] hob
  have l2 := rn_len (from_ ts b) [] f1
  refine ⟨rt_of (by omega) hob (by omega), rt_of (by omega) f1 (by omega), ?_⟩
  have hs := rn_split ts [] b (e - b)
  rw [e1, rn_app _ _ f1] at hs
  show (pshM (ts e) (rnM ts [] e)).getD 0 _ = _
  rw [hs]
  unfold pshM
  rw [if_neg (by omega), if_neg (by omega)]
  show binM _ _ _ = _
  have d1 : rdN (from_ ts b) (e - b) = 1 := by omega
  have d2 : rdN ts b = 1 := by omega
  rw [d1] at l2
  rw [d2] at l1
  unfold mnF
  match rnM (from_ ts b) [] (e - b), l2, rnM ts [] b, l1 with
  | [x], _, [y], _ => rfl
/-- Where nothing is ready there is nothing. -/
theorem rd_zero {ts : Nat → Tm} {b n : Nat} (hb : b ≤ n) (h : okB ts n = true) (h0 : rdN ts b = 0) : b = 0 := by
  rcases Nat.eq_zero_or_pos b with e | e
  · exact e
  · have := rd_pos ts e (ok_down ts hb h); omega
end Go.Proofs.YtaccamlplikkfaaGreatDoor
