/- What stands while the law on once, always and since goes round; its argument opened; 'with' of one formula wherever that lies. -/
import Derived.Test.YtmemhlhjkpijpaaWithN
import Derived.Lib.SmallJoins
namespace Go.Proofs.Ytmemhlhjkpijpaa
open Go.ChangeShapes Go.WideShapes Go.ChangeAt Go.RowKit Go.Deep Go.Joins
set_option linter.unusedVariables false
set_option linter.unusedSimpArgs false
set_option maxRecDepth 100000

structure LwI (w : World) (b9 b10 b11 g12 N12 : Nat) (n0 : Int) (J12 : Nat → Tm) (wx : World) : Prop where
  bel : Below w.heap.size w wx
  x9 : Box wx b9 #[.int .i64 3, .int .i64 0, .int .i64 0]
  x10 : Box wx b10 #[.int .i64 6, .int .i64 n0, .int .i64 0]
  x11 : Box wx b11 #[.int .i64 7, .int .i64 n0, .int .i64 0]
  s12 : Terms wx (some ⟨g12, 0, none⟩) N12 J12
theorem LwI.below {w wx w' : World} {b9 b10 b11 g12 N12 : Nat} {n0 : Int} {J12 : Nat → Tm} (h : LwI w b9 b10 b11 g12 N12 n0 J12 wx) (hb : Below wx.heap.size wx w') : LwI w b9 b10 b11 g12 N12 n0 J12 w' :=
  ⟨below_call h.bel hb, h.x9.below hb, h.x10.below hb, h.x11.below hb, h.s12.below hb⟩
/-- 'with' of one formula, which a list at q holds. -/
theorem lw_one_at (t : Tm) (A : Option Addr) (n c q : Nat) (ts : Nat → Tm) (u : World) (h : Terms u A n ts) (hq : q < u.heap.size) (hc : u.cell? ⟨q, 0, none⟩ = some (.slice A n c)) (h0 : 0 < n) (h10 : n ≤ 10) (ht : t.b ≤ 9223372036854775807) :
    Calls Try.prog 14 #[t.val, .slice (some ⟨q, 0, none⟩) 1 1] u (WiR (n + 1) (tmJ ts (fun _ => t) n) u) := by
  have e1 : catN (fun _ => n) 1 = n := by unfold catN catN; omega
  have e2 : catF (fun _ => n) (fun _ => ts) 1 = ts := by
    funext i
    show tmJ (fun _ => ⟨0, 0, 0⟩) ts 0 i = ts i
    unfold tmJ
    rw [if_neg (by omega), Nat.sub_zero]
  have := lw_with t (some ⟨q, 0, none⟩) 1 1 (fun _ => A) (fun _ => n) (fun _ => c) (fun _ => ts) u ht
    (fun _ => ⟨q, 0, rfl, hq, fun i hi => by
      obtain rfl : i = 0 := by omega
      exact hc⟩) (fun i hi => ⟨h, h0, h10⟩) (by omega) (fun i hi => by
      rw [e1] at hi
      rw [e1, e2]
      by_cases x : i < n
      · rw [tmJ_lo x]; exact h.1 i x
      · unfold tmJ; rw [if_neg x]; exact ht)
  rw [e1, e2] at this
  exact this
/-- A cell that reads as rows. -/
theorem rows_of_trod {H : Type} {enc : TypeId × Value → H} {P : Program} {W : World} {t e : TypeId} {nb fuel : Nat} {v : Value} {y : DataW H × List MemPlace} (n : Nat) (ls : List TypeDesc)
    (ht : P.underlying t = some (.slice e)) (hls : leafB P n e ls = true) (hc : P.cellsOf e = ls.length) (hp : 0 < ls.length) (hb : P.bytesOf e = nb)
    (hf : DataW.trod enc P W 0 (fun _ => true) true fuel t [v] = some y) (hlt : ∀ x ∈ y.2, x.block < W.heap.size)
    (hw : ∀ n ∈ y.1.weights P t, n ≤ reachBytes) :
    ∃ A n c rs, v = .slice A n c ∧ Rows ls W A n rs ∧ n ≤ c ∧ n * nb ≤ 140737488351232 := by
  rcases open_slice ht hf with ⟨hcs, hx⟩ | ⟨a, len', cap', m, n', D, Pl, hcs, _, hl, hm, hmm, hx, hi⟩
  · simp at hcs
    subst hcs
    exact ⟨none, 0, 0, [], rfl, ⟨rfl, fun i h => absurd h (by omega), fun h => absurd h (by omega)⟩, by omega, by omega⟩
  · simp at hcs
    subst hcs
    subst hx
    simp only [if_true] at hmm
    obtain rfl := hmm
    have hwt : (len' + (m - len')) * nb ≤ 140737488351232 := by
      have := hw ((len' + (m - len')) * nb) (by simp [DataW.weights, ht, hb])
      simpa [reachBytes] using this
    have hle : len' * nb ≤ (len' + (m - len')) * nb := Nat.mul_le_mul_right _ (by omega)
    have hch : ∀ i, ∃ cs' : List Value, i < m → W.cells? 0 (a.add (i * P.cellsOf e)) (P.cellsOf e) = some cs' ∧ LeavesIs ls cs' := by
      intro i
      by_cases hic : i < m
      · obtain ⟨cs', h1, h2⟩ := hi i hic
        exact ⟨cs', fun _ => ⟨h1, leaves_of n e ls _ _ _ hls h2⟩⟩
      · exact ⟨[], fun h => absurd h hic⟩
    obtain ⟨R, hR⟩ : ∃ R : Nat → List Value, ∀ i, i < m → W.cells? 0 (a.add (i * P.cellsOf e)) (P.cellsOf e) = some (R i) ∧ LeavesIs ls (R i) :=
      ⟨fun i => Classical.choose (hch i), fun i => Classical.choose_spec (hch i)⟩
    have hg : ∀ i, i < len' → ((List.range len').map R).getD i [] = R i := by
      intro i hi
      simp [List.getD_eq_getElem?_getD, hi]
    refine ⟨some a, len', m, (List.range len').map R, rfl, ⟨by simp, fun i hi => by rw [hg i hi]; exact (hR i (by omega)).2, fun hn => ?_⟩, by omega, by omega⟩
    have hcell : ∀ i, i < len' → ∀ j, j < ls.length → W.cell? (a.add (i * ls.length + j)) = some ((R i).getD j undef) := by
      intro i hi j hj
      obtain ⟨h1, h2, h3⟩ := hR i (by omega)
      obtain ⟨_, h4, h5⟩ := World.cells?_some h1
      have := h5 j (by omega)
      rw [add_add, hc] at this
      rw [this, List.getD_eq_getElem?_getD, List.getElem?_eq_getElem (by omega)]
      rfl
    obtain ⟨b, off, spot⟩ := a
    have hspot : spot = none := by simpa [Addr.add] using World.cell?_spot (hcell 0 hn 0 hp)
    subst hspot
    refine ⟨b, off, rfl, hlt (.cell b off) ?_, fun i hi j hj => ?_⟩
    · refine List.mem_append_left _ (MemPlace.mem_row.2 ⟨0, ?_, by simp⟩)
      rw [hc]; exact Nat.mul_pos (by omega) hp
    · rw [hg i hi, ← hcell i hi j hj]
      rw [Go.WideShapes.add_plain]
/-- A right formula and what it means. -/
def Fm (F : Nat → Tm) (N : Nat) (M : Mn) : Prop := rtB F N = true ∧ mnF F N = M
theorem Fm.one {F : Nat → Tm} {N : Nat} {M M' : Mn} {t : Tm} (h : Fm F N M) (hm : myB t = true) (h1 : ndN t.op = 1) (hn : N < 40) (e : unaM t M = M') : Fm (tmJ F (fun _ => t) N) (N + 1) M' := by
  obtain ⟨a, b⟩ := rt_one_more h.1 hm h1 hn
  exact ⟨a, by rw [b, h.2, e]⟩
theorem Fm.two {F G : Nat → Tm} {N K : Nat} {M L M' : Mn} {t : Tm} (h : Fm F N M) (g : Fm G K L) (hm : myB t = true) (h2 : ndN t.op = 2) (hn : N + K < 40) (e : binM t.op M L = M') : Fm (tmJ (tmJ F G N) (fun _ => t) (N + K)) (N + K + 1) M' := by
  obtain ⟨a, b⟩ := rt_two_more h.1 g.1 hm h2 hn
  exact ⟨a, by rw [b, h.2, g.2, e]⟩
theorem my_back (n0 : Int) (h0 : 0 ≤ n0) (h1 : n0 ≤ 1000) : myB ⟨6, n0, 0⟩ = true ∧ myB ⟨7, n0, 0⟩ = true := by
  unfold myB
  simp [h0, h1]
theorem Fm.not {F : Nat → Tm} {N : Nat} {M : Mn} (h : Fm F N M) (hn : N < 40) : Fm (tmJ F (fun _ => ⟨3, 0, 0⟩) N) (N + 1) (.not M) := h.one (by kernel_rfl) (by kernel_rfl) hn rfl
theorem Fm.once {F : Nat → Tm} {N : Nat} {M : Mn} (h : Fm F N M) (hn : N < 40) (n0 : Int) (h0 : 0 ≤ n0) (h1 : n0 ≤ 1000) : Fm (tmJ F (fun _ => ⟨6, n0, 0⟩) N) (N + 1) (.once M n0) := h.one (my_back n0 h0 h1).1 (by show (if (6 : Int) = 3 ∨ (6 : Int) = 6 ∨ (6 : Int) = 7 then 1 else _) = 1; rw [if_pos (by decide)]) hn (by show (if (6 : Int) = 6 then _ else _) = _; rw [if_pos rfl])
theorem Fm.always {F : Nat → Tm} {N : Nat} {M : Mn} (h : Fm F N M) (hn : N < 40) (n0 : Int) (h0 : 0 ≤ n0) (h1 : n0 ≤ 1000) : Fm (tmJ F (fun _ => ⟨7, n0, 0⟩) N) (N + 1) (.always M n0) := h.one (my_back n0 h0 h1).2 (by show (if (7 : Int) = 3 ∨ (7 : Int) = 6 ∨ (7 : Int) = 7 then 1 else _) = 1; rw [if_pos (by decide)]) hn (by show (if (7 : Int) = 6 then _ else if (7 : Int) = 7 then _ else _) = _; rw [if_neg (by decide), if_pos rfl])
theorem Fm.and {F G : Nat → Tm} {N K : Nat} {M L : Mn} (h : Fm F N M) (g : Fm G K L) (hn : N + K < 40) : Fm (tmJ (tmJ F G N) (fun _ => ⟨4, 0, 0⟩) (N + K)) (N + K + 1) (.both M L) := h.two g (by kernel_rfl) (by kernel_rfl) hn rfl
theorem Fm.or {F G : Nat → Tm} {N K : Nat} {M L : Mn} (h : Fm F N M) (g : Fm G K L) (hn : N + K < 40) : Fm (tmJ (tmJ F G N) (fun _ => ⟨5, 0, 0⟩) (N + K)) (N + K + 1) (.either M L) := h.two g (by kernel_rfl) (by kernel_rfl) hn rfl
theorem Fm.since {F G : Nat → Tm} {N K : Nat} {M L : Mn} (h : Fm F N M) (g : Fm G K L) (hn : N + K < 40) : Fm (tmJ (tmJ F G N) (fun _ => ⟨8, 0, 0⟩) (N + K)) (N + K + 1) (.since M L) := h.two g (by kernel_rfl) (by kernel_rfl) hn rfl
theorem ho_fm {A B : Option Addr} {n c m d : Nat} {ts : Nat → Tm} {os : Nat → Ou} {w : World} {M : Mn} (k : Nat) (v : Bool) (f : Fm ts n M) (h : Terms w A n ts) (ho : Outs w B m os) (hc : n ≤ c) (hm : m ≤ 100000) (hd : m ≤ d) (hk : k < m) (hv : soM os M k = v) :
    Calls Try.prog 11 #[.slice A n c, .slice B m d, .int .i64 (k : Int)] w fun e w' => e = .returned (.bool v) ∧ Below w.heap.size w w' := ho_known k v h ho hc hm hd hk f.1 (by rw [f.2]; exact hv)
/-- A list made anew; a list of one such list. -/
def LiP (N : Nat) (F : Nat → Tm) : Value → World → Prop := fun v w => ∃ g d, v = .slice (some ⟨g, 0, none⟩) N d ∧ Terms w (some ⟨g, 0, none⟩) N F ∧ N ≤ d
def HlP (N : Nat) (F : Nat → Tm) : Value → World → Prop := fun v w => ∃ q A c, v = .slice (some ⟨q, 0, none⟩) 1 1 ∧ q < w.heap.size ∧ w.cell? ⟨q, 0, none⟩ = some (.slice A N c) ∧ Terms w A N F ∧ N ≤ c
theorem LiP.below {N : Nat} {F : Nat → Tm} {v : Value} {w w' : World} (h : LiP N F v w) (hb : Below w.heap.size w w') : LiP N F v w' := by
  obtain ⟨g, d, h1, h2, h3⟩ := h
  exact ⟨g, d, h1, h2.below hb, h3⟩
theorem HlP.below {N : Nat} {F : Nat → Tm} {v : Value} {w w' : World} (h : HlP N F v w) (hb : Below w.heap.size w w') : HlP N F v w' := by
  obtain ⟨q, A, c, h1, h2, h3, h4, h5⟩ := h
  exact ⟨q, A, c, h1, Nat.lt_of_lt_of_le h2 hb.size, (hb.cell (p := ⟨q, 0, none⟩) h2).trans h3, h4.below hb, h5⟩
theorem HlP.new {N c : Nat} {F : Nat → Tm} {A : Option Addr} {u : World} (h : Terms u A N F) (hc : N ≤ c) : HlP N F (.slice (some ⟨u.heap.size, 0, none⟩) 1 1) (u.alloc (.cells #[.slice A N c] 22)) :=
  ⟨u.heap.size, A, c, rfl, by simp, (box_new u #[.slice A N c] 22).2.1 0, h.below (below_alloc_on (Below.refl _ _) _), hc⟩
def hlSp (n : Nat) (ts f1 f2 f3 f4 : Nat → Tm) (i : Nat) : Option (Value → World → Prop) :=
  if i = 4 then some (HlP n ts) else if i = 5 then some (LiP (n + 1) f1) else if i = 6 then some (HlP (n + 1) f1) else if i = 7 then some (LiP (n + 1 + 1) f2) else if i = 8 then some (HlP (n + 1 + 1) f2) else if i = 9 then some (LiP (n + 1 + 1 + 1) f3) else if i = 15 then some (HlP n ts) else if i = 16 then some (LiP (n + 1) f4) else none
theorem hlSp_stable {n : Nat} {ts f1 f2 f3 f4 : Nat → Tm} : ∀ i p, hlSp n ts f1 f2 f3 f4 i = some p → ∀ v w w', p v w → Below w.heap.size w w' → p v w' := by
  intro i p h v w w' hp hb
  unfold hlSp at h
  repeat' split at h
  all_goals first
    | (cases h; first | exact HlP.below hp hb | exact LiP.below hp hb)
    | cases h
theorem open_case {H : Type} {enc : TypeId × Value → H} {W : World} {base : Nat} {v : Value} {d : DataW H} {p : List MemPlace}
    (hval : Value.okWide Try.prog W .any base 33 v) (h : DataW.Trod enc Try.prog W 0 (fun _ => true) true 33 v d p) (hlt : ∀ x ∈ p, x.block < W.heap.size)
    (hw : ∀ n ∈ d.weights Try.prog 33, n ≤ reachBytes) :
    ∃ (A : Option Addr) (n c : Nat) (rs : List (List Value)) (k : Int), v = .agg #[.slice A n c, .int .u8 k] ∧ Rows [.int .i64, .int .i64, .int .i64, .int .i64, .int .i64, .int .i64, .int .i64, .int .i64, .int .i64, .bool, .string] W A n rs ∧ n ≤ c ∧ n * 96 ≤ 140737488351232 ∧ (Lit.int .u8 k).wf = true := by
  obtain ⟨v0, v1, y0, y1, fuel, rfl, rfl, rfl, t0, t1⟩ := open_agg2 Try.underlying33 (by kernel_rfl) (by kernel_rfl) hval h
  obtain ⟨k, rfl, wk⟩ : ∃ k, v1 = .int .u8 k ∧ (Lit.int .u8 k).wf = true := by
    have := leaves_of (enc := enc) 1 5 [.int .u8] fuel [v1] _ (by kernel_rfl) t1
    exact this.2 0 _ rfl
  obtain ⟨A, n, c, rs, rfl, h1, h2, h3⟩ := rows_of_trod (t := 23) (nb := 96) 5 [.int .i64, .int .i64, .int .i64, .int .i64, .int .i64, .int .i64, .int .i64, .int .i64, .int .i64, .bool, .string] Try.underlying23 (by kernel_rfl) (by kernel_rfl) (by decide) (by kernel_rfl) t0 (fun x hx => hlt x (by simp [hx])) (fun n hn => hw n (by simp [DataW.weights, DataW.weightsEach, Try.underlying33, hn]))
  exact ⟨A, n, c, rs, k, rfl, h1, h2, h3, wk⟩
end Go.Proofs.Ytmemhlhjkpijpaa
