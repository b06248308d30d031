/- The document's eye over a list; lists of what is seen; whether two are the same. -/
import Derived.Test.YtkddledajffdbaaLaw22
import Derived.Test.YtkddledajffdbaaRef22
import Derived.Test.YtkddledajffdbaaTri
import Derived.Deep.CutBlock
namespace Go.Proofs.Ytkddledajffdbaa
open Go.RowKit
set_option linter.unusedVariables false
set_option linter.unusedSimpArgs false
set_option maxRecDepth 100000

/-- Rows of four truths, one behind the other. -/
def rowsB (f : Nat → Nat → Bool) : Nat → List Value
  | 0 => []
  | k + 1 => rowsB f k ++ [.bool (f k 0), .bool (f k 1), .bool (f k 2), .bool (f k 3)]
theorem rowsB_len (f : Nat → Nat → Bool) : ∀ k, (rowsB f k).length = k * 4
  | 0 => rfl
  | k + 1 => by rw [rowsB, List.length_append, rowsB_len f k]; simp; omega
theorem rowsB_get {f : Nat → Nat → Bool} {i j : Nat} (hj : j < 4) : ∀ k, i < k → (rowsB f k)[i * 4 + j]? = some (.bool (f i j))
  | k + 1, h => by
    rw [rowsB]
    by_cases e : i < k
    · rw [List.getElem?_append_left (by rw [rowsB_len]; omega)]
      exact rowsB_get hj k e
    · obtain rfl : i = k := by omega
      rw [List.getElem?_append_right (by rw [rowsB_len]; omega), rowsB_len, show i * 4 + j - i * 4 = j by omega]
      match j, hj with
      | 0, _ => rfl
      | 1, _ => rfl
      | 2, _ => rfl
      | 3, _ => rfl
theorem app_seen {ops : Array Oper} {rest : List Oper} {o : Oper} {a : Act} {Q : Exit → Act → World → Prop} {w : World} (hgd : o.guard = none) (s x : Operand)
    (ho : o.op = .call { callee := .builtin .append, args := #[s, x], argTypes := #[35, 35] }) {base n : Nat} {cs : List Value} {v : Value} (b0 b1 b2 b3 : Bool)
    (hs : a.eval s = v) (hx : a.eval x = .slice (some ⟨w.heap.size, 0, none⟩) 1 1) (hown : w.ownsRow base 31 4 v n cs) (hb : base ≤ w.heap.size) (hn : n ≤ 17592186044414)
    (hK : ∀ v' w', w'.ownsRow base 31 4 v' (n + 1) (cs ++ [.bool b0, .bool b1, .bool b2, .bool b3]) → (w.alloc (.cells #[.bool b0, .bool b1, .bool b2, .bool b3] 31)).grownBy w' v.ownBlock → wpList Try.prog ops Q rest (a.put o.dst v') w') :
    wpList Try.prog ops Q (o :: rest) a (w.alloc (.cells #[.bool b0, .bool b1, .bool b2, .bool b3] 31)) := by
  obtain ⟨i0, hi0, hz0, hz1, hz2⟩ := info_parts seen_info
  refine wpList_append_own _ hgd s x 35 ho base 31 i0 _ 4 4 Try.underlying35 hi0 hz0 hz1 hz2 rfl (by decide) v n cs hs (hown.alloc _) ⟨w.heap.size, 0, none⟩ 1 1 [.bool b0, .bool b1, .bool b2, .bool b3] hx rfl ?_ ?_ ?_ ?_ ?_ (fun v' w' h1 h2 _ => hK v' w' h1 h2)
  · intro j u hj
    match j, hj with
    | 0, hj => simp at hj; subst hj; simp [Addr.add]
    | 1, hj => simp at hj; subst hj; simp [Addr.add]
    | 2, hj => simp at hj; subst hj; simp [Addr.add]
    | 3, hj => simp at hj; subst hj; simp [Addr.add]
  · intro u hu
    simp at hu
    rcases hu with rfl | rfl | rfl | rfl <;> rfl
  · unfold maxLen; omega
  · omega
  · simp; omega
theorem own_far {w : World} {base e n sz : Nat} {v : Value} {cs : List Value} (h : w.ownsRow base e sz v n cs) {p : Addr} (hp : v.ownBlock ≠ some p.block) (x : Value) : (w.setCell p x).ownsRow base e sz v n cs := by
  refine ⟨h.1, ?_⟩
  rcases h.2 with h2 | ⟨g, cap, cur, hv, hg, hh, r⟩
  · exact .inl h2
  · refine .inr ⟨g, cap, cur, hv, hg, ?_, r⟩
    rw [heap_setCell_other w p g x (fun e => hp (by rw [hv]; exact congrArg some e))]
    exact hh
theorem own_below {w w1 : World} {base e n sz : Nat} {v : Value} {cs : List Value} (h : w.ownsRow base e sz v n cs) (hb : Below w.heap.size w w1) : w1.ownsRow base e sz v n cs := by
  refine ⟨h.1, ?_⟩
  rcases h.2 with h2 | ⟨g, cap, cur, hv, hg, hh, r⟩
  · exact .inl h2
  · exact .inr ⟨g, cap, cur, hv, hg, by rw [hb.block g (Array.getElem?_eq_some_iff.1 hh).1]; exact hh, r⟩
/-- Rows that are read. -/
def SeesA (w : World) (B : Option Addr) (n : Nat) (f : Nat → Nat → Bool) : Prop :=
  0 < n → ∃ g, B = some ⟨g, 0, none⟩ ∧ g < w.heap.size ∧ ∀ i j, i < n → j < 4 → w.cell? ⟨g, i * 4 + j, none⟩ = some (.bool (f i j))
theorem SeesA.below {w w' : World} {B : Option Addr} {n : Nat} {f : Nat → Nat → Bool} (h : SeesA w B n f) (hb : Below w.heap.size w w') : SeesA w' B n f := fun h0 => by
  obtain ⟨g, e, hl, hc⟩ := h h0
  exact ⟨g, e, Nat.lt_of_lt_of_le hl hb.size, fun i j hi hj => (hb.cell (p := ⟨g, i * 4 + j, none⟩) hl).trans (hc i j hi hj)⟩
theorem SeesA.of_sees {w : World} {g n : Nat} {f : Nat → Nat → Bool} (h : Sees w g n f) : SeesA w (some ⟨g, 0, none⟩) n f := fun _ => ⟨g, rfl, h.lt, h.cell⟩
theorem SeesA.of_own {w : World} {base e n : Nat} {v : Value} {f : Nat → Nat → Bool} (h : w.ownsRow base e 4 v n (rowsB f n)) : ∃ B d, v = .slice B n d ∧ n ≤ d ∧ SeesA w B n f := by
  rcases h.2 with ⟨hv, h0⟩ | ⟨g, cap, cur, hv, hg, hh, hnc, h1, h2, h3⟩
  · exact ⟨none, 0, by rw [hv, h0], by omega, fun h => by omega⟩
  · refine ⟨_, _, hv, hnc, fun _ => ⟨g, rfl, (Array.getElem?_eq_some_iff.1 hh).1, fun i j hi hj => ?_⟩⟩
    have hlt : i * 4 + j < n * 4 := by omega
    have h4 := rowsB_get (f := f) hj n hi
    rw [← h3, List.getElem?_take_of_lt hlt] at h4
    unfold World.cell?
    rw [hh]
    simpa using h4
theorem SeesA.at_ {w : World} {B : Option Addr} {n : Nat} {f : Nat → Nat → Bool} (h : SeesA w B n f) {i : Nat} (hi : i < n) : ∃ g, B = some ⟨g, 0, none⟩ ∧ g < w.heap.size ∧ w.cell? ⟨g, i * 4, none⟩ = some (.bool (f i 0)) ∧ w.cell? ⟨g, i * 4 + 1, none⟩ = some (.bool (f i 1)) ∧ w.cell? ⟨g, i * 4 + 2, none⟩ = some (.bool (f i 2)) ∧ w.cell? ⟨g, i * 4 + 3, none⟩ = some (.bool (f i 3)) := by
  obtain ⟨g, e, hl, hc⟩ := h (by omega)
  exact ⟨g, e, hl, hc i 0 hi (by omega), hc i 1 hi (by omega), hc i 2 hi (by omega), hc i 3 hi (by omega)⟩

attribute [local go_sem] cell_set_ite Near.cell Near.frozen
attribute [local go_sem ↓] Go.wp_at_zero Go.wp_at_succ
set_option maxHeartbeats 2000000 in
theorem same_sees {A B : Option Addr} {n d e : Nat} {f : Nat → Nat → Bool} {w : World} (hn : n ≤ 17592186044416) (ha : SeesA w A n f) (hb : SeesA w B n f) : Calls Try.prog 15 #[.slice A n d, .slice B n e] w fun x w' => x = .returned (.bool true) ∧ Below w.heap.size w w' := by
  go_enter Try.func15, Try.ntmps15
  go_wp2
  go_loopg [13] n (fun gk i wr => ∃ k : Nat, k ≤ n ∧ gk = n - k ∧ i = .int .i64 k ∧ Below w.heap.size w wr)
  case atStart => exact ⟨0, by omega, rfl, rfl, Below.refl _ _⟩
  case round =>
    obtain ⟨k, hk, rfl, rfl, A1⟩ := hrel
    by_cases hlt : k < n
    · obtain ⟨g, rfl, lg, c0, c1, c2, c3⟩ := (ha.below A1).at_ hlt
      obtain ⟨h, rfl, lh, d0, d1, d2, d3⟩ := (hb.below A1).at_ hlt
      have HA := Lib.hid ha
      have HB := Lib.hid hb
      clear ha hb
      generalize f k 0 = x0 at *
      generalize f k 1 = x1 at *
      generalize f k 2 = x2 at *
      generalize f k 3 = x3 at *
      go_wp2
      refine wp_region_calm (by kernel_rfl) (by kernel_rfl) ?_
      repeat (go_big_quiet_step ((fail)))
      refine wpQuiet_nil ?_
      intro _ hw'
      obtain ⟨u, rfl⟩ := hw'
      have A2 := below_call A1 u.below
      clear c0 c1 c2 c3 d0 d1 d2 d3
      go_wp2
      go_roundg (n - (k + 1))
      case measure => omega
      case rel => exact ⟨k + 1, by omega, by omega, by go_num, A2⟩
    · obtain rfl : k = n := by omega
      clear ha hb
      go_wp2
      all_goals go_ret
      all_goals exact ⟨rfl, A1⟩

def StepSays : Prop := ∀ (e : Gz) (a : Int) (w : World), Calls Try.prog 14 #[.agg #[.bool e.bg, .int .i64 e.ba, .bool e.sh, .bool e.on, .int .i64 e.rn, .int .i64 e.wt, .int .i64 e.ru, .int .i64 e.ra], .agg #[.int .i64 a, .int .i64 0, .int .i64 0, .int .i64 0, .bool false, .int .i64 0, .bool false, .int .i64 0]] w fun x w' =>
    x = .returned (.tuple #[.agg #[.bool (gzN e a).bg, .int .i64 (gzN e a).ba, .bool (gzN e a).sh, .bool (gzN e a).on, .int .i64 (gzN e a).rn, .int .i64 (gzN e a).wt, .int .i64 (gzN e a).ru, .int .i64 (gzN e a).ra], .agg #[.bool (gzD e a), .bool (gzS e a), .bool (gzT e a), .bool (gzF e a)]]) ∧ Below w.heap.size w w'
set_option maxHeartbeats 2000000 in
theorem re_look (HS : StepSays) (A : Option Addr) (n c : Nat) (xs : List Int) (w : World) (h : Ints w A n xs) (hn : n ≤ 100000) :
    Calls Try.prog 17 #[.slice A n c] w fun e w' => ∃ B d, e = .returned (.slice B n d) ∧ n ≤ d ∧ SeesA w' B n (snB xs) ∧ Below w.heap.size w w' := by
  have HI := Lib.hid h
  have HST := Lib.hid HS
  clear h HS
  have B1 := box_new w #[.bool false, .int .i64 0, .bool false, .bool false, .int .i64 0, .int .i64 0, .int .i64 0, .int .i64 0] 25
  have A1 := below_alloc_on (Below.refl w.heap.size w) (.cells #[.bool false, .int .i64 0, .bool false, .bool false, .int .i64 0, .int .i64 0, .int .i64 0, .int .i64 0] 25)
  go_enter Try.func17, Try.ntmps17
  go_wp2
  have H0 : w.heap.size ≤ w.heap.size := Nat.le_refl _
  obtain ⟨eb, heb⟩ : ∃ eb, w.heap.size = eb := ⟨_, rfl⟩
  have we : w.heap.size ≤ eb := by omega
  have s1 : eb + 1 ≤ (w.alloc (.cells #[.bool false, .int .i64 0, .bool false, .bool false, .int .i64 0, .int .i64 0, .int .i64 0, .int .i64 0] 25)).heap.size := by simp [heb]
  simp only [heb] at B1 ⊢
  generalize w.alloc (.cells #[.bool false, .int .i64 0, .bool false, .bool false, .int .i64 0, .int .i64 0, .int .i64 0, .int .i64 0] 25) = w1 at *
  go_loopg [4, 9] n (fun gk v i wr => ∃ k : Nat, k ≤ n ∧ gk = n - k ∧ i = .int .i64 k ∧ Below w.heap.size w wr ∧ eb + 1 ≤ wr.heap.size ∧ wr.ownsRow (eb + 1) 31 4 v k (rowsB (snB xs) k) ∧
    Box wr eb #[.bool (gzAt xs k).bg, .int .i64 (gzAt xs k).ba, .bool (gzAt xs k).sh, .bool (gzAt xs k).on, .int .i64 (gzAt xs k).rn, .int .i64 (gzAt xs k).wt, .int .i64 (gzAt xs k).ru, .int .i64 (gzAt xs k).ra])
  case atStart => exact ⟨0, by omega, rfl, rfl, A1, s1, World.ownsRow_nil _ _ _ _, B1⟩
  case round =>
    clear A1 B1 s1
    obtain ⟨k, hk, rfl, rfl, A1, s1, O1, B1⟩ := hrel
    by_cases hlt : k < n
    · obtain ⟨b, off, rfl, hbs, hcell⟩ := HI.out.2 (by omega)
      have hck := (A1.cell (p := ⟨b, off + k, none⟩) hbs).trans (hcell k hlt)
      have hbe : b < eb := by omega
      clear hcell
      have HEY := Lib.hid (HST.out (gzAt xs k) (xs.getD k 0))
      have hR : rowsB (snB xs) (k + 1) = rowsB (snB xs) k ++ [.bool (gzD (gzAt xs k) (xs.getD k 0)), .bool (gzS (gzAt xs k) (xs.getD k 0)), .bool (gzT (gzAt xs k) (xs.getD k 0)), .bool (gzF (gzAt xs k) (xs.getD k 0))] := rfl
      have hN : gzAt xs (k + 1) = gzN (gzAt xs k) (xs.getD k 0) := rfl
      generalize gzD (gzAt xs k) (xs.getD k 0) = b0 at *
      generalize gzS (gzAt xs k) (xs.getD k 0) = b1 at *
      generalize gzT (gzAt xs k) (xs.getD k 0) = b2 at *
      generalize gzF (gzAt xs k) (xs.getD k 0) = b3 at *
      generalize gzN (gzAt xs k) (xs.getD k 0) = en at *
      have HNX := Lib.hid hN
      have HRX := Lib.hid hR
      clear hN hR
      generalize xs.getD k 0 = a at *
      generalize gzAt xs k = e0 at *
      generalize rowsB (snB xs) k = cs at *
      obtain ⟨n0, n1, n2, n3, n4, n5, n6, n7⟩ := en
      obtain ⟨m0, m1, m2, m3, m4, m5, m6, m7⟩ := e0
      have HE := Lib.hid (show ∀ w, Calls Try.prog 14 #[.agg #[.bool m0, .int .i64 m1, .bool m2, .bool m3, .int .i64 m4, .int .i64 m5, .int .i64 m6, .int .i64 m7], .agg #[.int .i64 a, .int .i64 0, .int .i64 0, .int .i64 0, .bool false, .int .i64 0, .bool false, .int .i64 0]] w fun x w' => x = .returned (.tuple #[.agg #[.bool n0, .int .i64 n1, .bool n2, .bool n3, .int .i64 n4, .int .i64 n5, .int .i64 n6, .int .i64 n7], .agg #[.bool b0, .bool b1, .bool b2, .bool b3]]) ∧ Below w.heap.size w w' from HEY.out)
      clear HEY HST
      replace B1 : Box wr eb #[.bool m0, .int .i64 m1, .bool m2, .bool m3, .int .i64 m4, .int .i64 m5, .int .i64 m6, .int .i64 m7] := B1
      have fO : ∀ q, u4.ownBlock = some q → eb + 1 ≤ q ∧ q < wr.heap.size := fun q hq => O1.lt q hq
      go_upto_region 7 with (fail)
      refine at_world (fun W => Below w.heap.size w W ∧ wr.heap.size + 1 ≤ W.heap.size ∧ W.ownsRow (eb + 1) 31 4 u4 k cs ∧ Box W eb #[.bool m0, .int .i64 m1, .bool m2, .bool m3, .int .i64 m4, .int .i64 m5, .int .i64 m6, .int .i64 m7] ∧ Box W wr.heap.size #[.bool false, .bool false, .bool false, .bool false] ∧ W.cell? ⟨b, off + k, none⟩ = some (.int .i64 a)) ⟨by (repeat (first | (with_reducible exact Below.refl _ _) | (with_reducible assumption) | (with_reducible refine Near.up _ ?_) | (with_reducible refine Below.drew ?_) | (with_reducible refine below_alloc_on ?_ _) | (with_reducible refine below_set_on ?_ (by first | (simp; done) | (simp; omega) | omega) _))), by simp, O1.alloc _, by (repeat (first | (with_reducible assumption) | (with_reducible exact box_new _ _ _) | ((with_reducible apply box_at); (first | (with_reducible rfl) | (simp <;> omega))) | (with_reducible apply Box.drew) | (with_reducible apply Box.drewN) | (with_reducible apply Box.near) | (with_reducible apply Box.alloc) | ((with_reducible apply box_far); (first | assumption | omega | (simp <;> omega))) | ((with_reducible apply Box.one_set); (with_reducible assumption)) | ((with_reducible apply Box.two_set); (with_reducible assumption)) | ((with_reducible apply Box.three_set); (with_reducible assumption)) | (with_reducible apply Box.set) | (simp only [List.size_toArray, List.length_cons, List.length_nil, Array.size_setIfInBounds] <;> omega))), by (repeat (first | (with_reducible assumption) | (with_reducible exact box_new _ _ _) | ((with_reducible apply box_at); (first | (with_reducible rfl) | (simp <;> omega))) | (with_reducible apply Box.drew) | (with_reducible apply Box.drewN) | (with_reducible apply Box.near) | (with_reducible apply Box.alloc) | ((with_reducible apply box_far); (first | assumption | omega | (simp <;> omega))) | ((with_reducible apply Box.one_set); (with_reducible assumption)) | ((with_reducible apply Box.two_set); (with_reducible assumption)) | ((with_reducible apply Box.three_set); (with_reducible assumption)) | (with_reducible apply Box.set) | (simp only [List.size_toArray, List.length_cons, List.length_nil, Array.size_setIfInBounds] <;> omega))), (World.cell?_alloc_lt wr _ ⟨b, off + k, none⟩ (Nat.lt_of_lt_of_le hbs A1.size)).trans hck⟩ ?_
      rintro w2 ⟨A2, s2, O2, B2, S2, hc2⟩
      have oe : wr.heap.size ≠ eb := by omega
      have eo : eb ≠ wr.heap.size := by omega
      have wo : w.heap.size ≤ wr.heap.size := by omega
      clear A1 O1 B1 hck
      generalize wr.heap.size = o at *
      obtain ⟨lB, cB, fB⟩ := id B2
      obtain ⟨lS, cS, fS⟩ := id S2
      go_region_with (go_at_call 14; refine (HE.out _).mono ?_; rintro e w3 ⟨rfl, hb⟩; (have B3 := Box.below (g := eb) (by (repeat (first | (with_reducible assumption) | (with_reducible exact box_new _ _ _) | ((with_reducible apply box_at); (first | (with_reducible rfl) | (simp <;> omega))) | (with_reducible apply Box.drew) | (with_reducible apply Box.drewN) | (with_reducible apply Box.near) | (with_reducible apply Box.alloc) | ((with_reducible apply box_far); (first | assumption | omega | (simp <;> omega))) | ((with_reducible apply Box.one_set); (with_reducible assumption)) | ((with_reducible apply Box.two_set); (with_reducible assumption)) | ((with_reducible apply Box.three_set); (with_reducible assumption)) | (with_reducible apply Box.set) | (simp only [List.size_toArray, List.length_cons, List.length_nil, Array.size_setIfInBounds] <;> omega)))) hb); (have S3 := Box.below (g := o) (by (repeat (first | (with_reducible assumption) | (with_reducible exact box_new _ _ _) | ((with_reducible apply box_at); (first | (with_reducible rfl) | (simp <;> omega))) | (with_reducible apply Box.drew) | (with_reducible apply Box.drewN) | (with_reducible apply Box.near) | (with_reducible apply Box.alloc) | ((with_reducible apply box_far); (first | assumption | omega | (simp <;> omega))) | ((with_reducible apply Box.one_set); (with_reducible assumption)) | ((with_reducible apply Box.two_set); (with_reducible assumption)) | ((with_reducible apply Box.three_set); (with_reducible assumption)) | (with_reducible apply Box.set) | (simp only [List.size_toArray, List.length_cons, List.length_nil, Array.size_setIfInBounds] <;> omega)))) hb); (have lB3 := B3.1); (have cB3 := B3.2.1); (have fB3 := B3.2.2); (have lS3 := S3.1); (have cS3 := S3.2.1); (have fS3 := S3.2.2))
      all_goals
        have A3 : Below w.heap.size w w3 := by first | exact below_call A2 hb | exact below_call (Below.drew A2) hb
        have O3 : w3.ownsRow (eb + 1) 31 4 u4 k cs := by first | exact own_below O2 hb | exact own_below (w := w2.drew) O2 hb
        have s3 : o + 1 ≤ w3.heap.size := Nat.le_trans s2 hb.size
        have ne1 : u4.ownBlock ≠ some eb := fun e => by have := (fO _ e).1; omega
        have ne2 : u4.ownBlock ≠ some o := fun e => by have := (fO _ e).2; omega
        obtain ⟨B4, S4, A4⟩ := two_boxes B3 S3 oe A3 we wo (.bool n0) (.int .i64 n1) (.bool n2) (.bool n3) (.int .i64 n4) (.int .i64 n5) (.int .i64 n6) (.int .i64 n7) (.bool b0) (.bool b1) (.bool b2) (.bool b3)
        have O4 := (own_far (own_far (own_far (own_far (own_far (own_far (own_far (own_far (own_far (own_far (own_far (own_far O3 (p := ⟨eb, 0, none⟩) ne1 (.bool n0)) (p := ⟨eb, 1, none⟩) ne1 (.int .i64 n1)) (p := ⟨eb, 2, none⟩) ne1 (.bool n2)) (p := ⟨eb, 3, none⟩) ne1 (.bool n3)) (p := ⟨eb, 4, none⟩) ne1 (.int .i64 n4)) (p := ⟨eb, 5, none⟩) ne1 (.int .i64 n5)) (p := ⟨eb, 6, none⟩) ne1 (.int .i64 n6)) (p := ⟨eb, 7, none⟩) ne1 (.int .i64 n7)) (p := ⟨o, 0, none⟩) ne2 (.bool b0)) (p := ⟨o, 1, none⟩) ne2 (.bool b1)) (p := ⟨o, 2, none⟩) ne2 (.bool b2)) (p := ⟨o, 3, none⟩) ne2 (.bool b3))
        have s4 : eb + 1 ≤ ((((((((((((w3.setCell ⟨eb, 0, none⟩ (.bool n0)).setCell ⟨eb, 1, none⟩ (.int .i64 n1)).setCell ⟨eb, 2, none⟩ (.bool n2)).setCell ⟨eb, 3, none⟩ (.bool n3)).setCell ⟨eb, 4, none⟩ (.int .i64 n4)).setCell ⟨eb, 5, none⟩ (.int .i64 n5)).setCell ⟨eb, 6, none⟩ (.int .i64 n6)).setCell ⟨eb, 7, none⟩ (.int .i64 n7)).setCell ⟨o, 0, none⟩ (.bool b0)).setCell ⟨o, 1, none⟩ (.bool b1)).setCell ⟨o, 2, none⟩ (.bool b2)).setCell ⟨o, 3, none⟩ (.bool b3)).heap.size := by simp only [size_setCell]; omega
        generalize ((((((((((((w3.setCell ⟨eb, 0, none⟩ (.bool n0)).setCell ⟨eb, 1, none⟩ (.int .i64 n1)).setCell ⟨eb, 2, none⟩ (.bool n2)).setCell ⟨eb, 3, none⟩ (.bool n3)).setCell ⟨eb, 4, none⟩ (.int .i64 n4)).setCell ⟨eb, 5, none⟩ (.int .i64 n5)).setCell ⟨eb, 6, none⟩ (.int .i64 n6)).setCell ⟨eb, 7, none⟩ (.int .i64 n7)).setCell ⟨o, 0, none⟩ (.bool b0)).setCell ⟨o, 1, none⟩ (.bool b1)).setCell ⟨o, 2, none⟩ (.bool b2)).setCell ⟨o, 3, none⟩ (.bool b3)) = w4 at *
        clear lB cB fB lS cS fS lB3 cB3 fB3 lS3 cS3 fS3 B2 S2 A2 O2 hc2 B3 S3 A3 O3 hb s2 s3
        obtain ⟨c0, c1, c2, c3, fS, lS⟩ := S4.four
        have hkl : k ≤ 17592186044414 := by omega
        have HO := Lib.hid O4
        have HB := Lib.hid B4
        clear O4 B4
        go_wp2_with (at_builtin; refine app_seen rfl _ _ rfl b0 b1 b2 b3 rfl rfl HO.out s4 hkl ?_)
        intro v' w5 ho hg
        have A5 : Below w.heap.size w w5 := (A4.alloc A4.size _).grown hg (by have := A4.size; simp; omega) (fun g hg => by have := fO g hg; omega)
        have B5 := Lib.hid (Box.grown (w := w) HB.out ne1 hg)
        have s5 : eb + 1 ≤ w5.heap.size := Nat.le_trans s4 (Nat.le_trans (by simp) hg.size)
        have HO5 := Lib.hid ho
        clear ho hg HO HB c0 c1 c2 c3 fS lS S4 A4 s4
        go_wp2
        go_roundg (n - (k + 1))
        case measure => omega
        case rel => exact ⟨k + 1, by omega, by omega, by go_num, A5, s5, by rw [HRX.out]; exact HO5.out, by rw [HNX.out]; exact B5.out⟩
    · obtain rfl : k = n := by omega
      obtain ⟨B, d, rfl, hd, hS⟩ := SeesA.of_own O1
      have HS := Lib.hid hS
      clear hS O1 B1 HST HI
      go_wp2
      all_goals go_ret
      all_goals exact ⟨B, d, rfl, hd, HS.out, A1⟩
end Go.Proofs.Ytkddledajffdbaa
