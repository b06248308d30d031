/- What an eye sees of some lights, one by one. -/
import Derived.Test.YtkddledajffdbaaEye
import Derived.Deep.LoopGhost
namespace Go.Proofs.Ytkddledajffdbaa
open Go.RowKit
set_option linter.unusedVariables false
set_option linter.unusedSimpArgs false
set_option maxRecDepth 100000

/-- What an eye has in mind. -/
structure Gz where
  bg : Bool
  ba : Int
  sh : Bool
  on : Bool
  rn : Int
  wt : Int
  ru : Int
  ra : Int
def gz0 : Gz := ⟨false, 0, false, false, 0, 0, 0, 0⟩
def gzS (e : Gz) (a : Int) : Bool := eyS e.bg e.ba a e.sh
def gzE (e : Gz) (a : Int) : Bool := dbO e.on e.rn (gzS e a) && !e.on
def gzN (e : Gz) (a : Int) : Gz := ⟨true, eyN (eyB e.bg e.ba a) a (gzS e a), gzS e a, dbO e.on e.rn (gzS e a), dbR e.on e.rn (gzS e a), rfV e.wt (gzE e a), sgV e.ru (gzS e a), raV e.ra a 0⟩
def gzD (e : Gz) (a : Int) : Bool := rfB e.wt (gzE e a)
def gzT (e : Gz) (a : Int) : Bool := decide (12 ≤ sgV e.ru (gzS e a))
def gzF (e : Gz) (a : Int) : Bool := faB (raV e.ra a 0) 0
/-- Behind so many lights. -/
def gzAt (xs : List Int) : Nat → Gz
  | 0 => gz0
  | k + 1 => gzN (gzAt xs k) (xs.getD k 0)
/-- What is seen in tick i: a drop, whether it is shaded, a stream, a fault. -/
def snB (xs : List Int) (i j : Nat) : Bool :=
  match j with
  | 0 => gzD (gzAt xs i) (xs.getD i 0)
  | 1 => gzS (gzAt xs i) (xs.getD i 0)
  | 2 => gzT (gzAt xs i) (xs.getD i 0)
  | _ => gzF (gzAt xs i) (xs.getD i 0)

/-- Rows of four truths. -/
structure Sees (w : World) (g n : Nat) (f : Nat → Nat → Bool) : Prop where
  lt : g < w.heap.size
  cell : ∀ i j, i < n → j < 4 → w.cell? ⟨g, i * 4 + j, none⟩ = some (.bool (f i j))
  frz : ∀ i, w.frozen? ⟨g, i, none⟩ = false
theorem Sees.below {w w' : World} {g n : Nat} {f : Nat → Nat → Bool} (h : Sees w g n f) (hb : Below w.heap.size w w') : Sees w' g n f :=
  ⟨Nat.lt_of_lt_of_le h.lt hb.size, fun i j hi hj => (hb.cell (p := ⟨g, i * 4 + j, none⟩) h.lt).trans (h.cell i j hi hj), fun i => (hb.frozen (p := ⟨g, i, none⟩) h.lt).trans (h.frz i)⟩
theorem Sees.far {w : World} {g n : Nat} {f : Nat → Nat → Bool} (h : Sees w g n f) {p : Addr} (hp : p.block ≠ g) (v : Value) : Sees (w.setCell p v) g n f :=
  ⟨by rw [size_setCell]; exact h.lt, fun i j hi hj => (World.cell?_setCell_other w p _ v (fun e => hp (congrArg Addr.block e))).trans (h.cell i j hi hj), fun i => (World.frozen?_setCell _ _ _ _).trans (h.frz i)⟩
theorem Sees.set1 {w : World} {g n : Nat} {f : Nat → Nat → Bool} (h : Sees w g n f) {k m : Nat} (hk : k < n) (hm : m < 4) (b : Bool) : Sees (w.setCell ⟨g, k * 4 + m, none⟩ (.bool b)) g n (fun i j => if i = k ∧ j = m then b else f i j) := by
  refine ⟨by rw [size_setCell]; exact h.lt, fun i j hi hj => ?_, fun i => (World.frozen?_setCell _ _ _ _).trans (h.frz i)⟩
  by_cases e : i = k ∧ j = m
  · obtain ⟨rfl, rfl⟩ := e
    rw [if_pos ⟨rfl, rfl⟩, World.cell?_setCell_same w _ _ (h.cell i j hi hj)]
  · rw [if_neg e, World.cell?_setCell_other w _ _ _ (fun q => e (by have := congrArg Addr.off q; simp at this; omega))]
    exact h.cell i j hi hj
theorem Sees.congr {w : World} {g n : Nat} {f f' : Nat → Nat → Bool} (h : Sees w g n f) (e : ∀ i j, i < n → j < 4 → f i j = f' i j) : Sees w g n f' :=
  ⟨h.lt, fun i j hi hj => by rw [← e i j hi hj]; exact h.cell i j hi hj, h.frz⟩
theorem Sees.set4 {w : World} {g n : Nat} {f : Nat → Nat → Bool} (h : Sees w g n f) {k : Nat} (hk : k < n) (b0 b1 b2 b3 : Bool) :
    Sees ((((w.setCell ⟨g, k * 4, none⟩ (.bool b0)).setCell ⟨g, k * 4 + 1, none⟩ (.bool b1)).setCell ⟨g, k * 4 + 2, none⟩ (.bool b2)).setCell ⟨g, k * 4 + 3, none⟩ (.bool b3)) g n
      (fun i j => if i = k then (match j with | 0 => b0 | 1 => b1 | 2 => b2 | _ => b3) else f i j) := by
  refine ((((h.set1 hk (m := 0) (by omega) b0).set1 hk (m := 1) (by omega) b1).set1 hk (m := 2) (by omega) b2).set1 hk (m := 3) (by omega) b3).congr ?_
  intro i j hi hj
  by_cases e : i = k
  · subst e
    match j, hj with
    | 0, _ => simp
    | 1, _ => simp
    | 2, _ => simp
    | 3, _ => simp
  · simp [e]
theorem seen_info : (Try.prog.info? 31).map (fun i => (i.zero, i.size, i.bytes)) = some (some (.agg #[.bool false, .bool false, .bool false, .bool false]), 4, 4) := by kernel_rfl
theorem sees_new (w : World) (n : Nat) (t : TypeId) : Sees (w.alloc (.cells (madeCells #[.bool false, .bool false, .bool false, .bool false] (n * 4)) t)) w.heap.size n (fun _ _ => false) := by
  refine ⟨by simp, fun i j hi hj => ?_, fun i => ?_⟩
  · rw [World.cell?_alloc_at _ _ _ _ rfl]
    unfold madeCells
    rw [Array.getElem?_map, Array.getElem?_range, if_pos (by omega)]
    have hm : (i * 4 + j) % 4 = j := by omega
    simp only [Option.map_some, List.size_toArray, List.length_cons, List.length_nil, hm]
    match j, hj with
    | 0, _ => rfl
    | 1, _ => rfl
    | 2, _ => rfl
    | 3, _ => rfl
  · rw [frozen?_alloc_cells]
    unfold World.frozen?
    rw [Array.getElem?_eq_none (Nat.le_refl _)]
theorem Box.eight_set {w : World} {g : Nat} {v0 v1 v2 v3 v4 v5 v6 v7 : Value} (h : Box w g #[v0, v1, v2, v3, v4, v5, v6, v7]) (x0 x1 x2 x3 x4 x5 x6 x7 : Value) :
    Box ((((((((w.setCell ⟨g, 0, none⟩ x0).setCell ⟨g, 1, none⟩ x1).setCell ⟨g, 2, none⟩ x2).setCell ⟨g, 3, none⟩ x3).setCell ⟨g, 4, none⟩ x4).setCell ⟨g, 5, none⟩ x5).setCell ⟨g, 6, none⟩ x6).setCell ⟨g, 7, none⟩ x7) g #[x0, x1, x2, x3, x4, x5, x6, x7] := by
  have h0 : Box _ g #[x0, v1, v2, v3, v4, v5, v6, v7] := h.set (i := 0) (by simp) x0
  have h1 : Box _ g #[x0, x1, v2, v3, v4, v5, v6, v7] := h0.set (i := 1) (by simp) x1
  have h2 : Box _ g #[x0, x1, x2, v3, v4, v5, v6, v7] := h1.set (i := 2) (by simp) x2
  have h3 : Box _ g #[x0, x1, x2, x3, v4, v5, v6, v7] := h2.set (i := 3) (by simp) x3
  have h4 : Box _ g #[x0, x1, x2, x3, x4, v5, v6, v7] := h3.set (i := 4) (by simp) x4
  have h5 : Box _ g #[x0, x1, x2, x3, x4, x5, v6, v7] := h4.set (i := 5) (by simp) x5
  have h6 : Box _ g #[x0, x1, x2, x3, x4, x5, x6, v7] := h5.set (i := 6) (by simp) x6
  have h7 : Box _ g #[x0, x1, x2, x3, x4, x5, x6, x7] := h6.set (i := 7) (by simp) x7
  exact h7
theorem Sees.far8 {w : World} {e g n : Nat} {f : Nat → Nat → Bool} (h : Sees w g n f) (hp : e ≠ g) (x0 x1 x2 x3 x4 x5 x6 x7 : Value) :
    Sees ((((((((w.setCell ⟨e, 0, none⟩ x0).setCell ⟨e, 1, none⟩ x1).setCell ⟨e, 2, none⟩ x2).setCell ⟨e, 3, none⟩ x3).setCell ⟨e, 4, none⟩ x4).setCell ⟨e, 5, none⟩ x5).setCell ⟨e, 6, none⟩ x6).setCell ⟨e, 7, none⟩ x7) g n f :=
  (((((((h.far (p := ⟨e, 0, none⟩) hp x0).far (p := ⟨e, 1, none⟩) hp x1).far (p := ⟨e, 2, none⟩) hp x2).far (p := ⟨e, 3, none⟩) hp x3).far (p := ⟨e, 4, none⟩) hp x4).far (p := ⟨e, 5, none⟩) hp x5).far (p := ⟨e, 6, none⟩) hp x6).far (p := ⟨e, 7, none⟩) hp x7
theorem Box.far4 {w : World} {e g o0 o1 o2 o3 : Nat} {cs : Array Value} (h : Box w e cs) (hp : g ≠ e) (x0 x1 x2 x3 : Value) :
    Box ((((w.setCell ⟨g, o0, none⟩ x0).setCell ⟨g, o1, none⟩ x1).setCell ⟨g, o2, none⟩ x2).setCell ⟨g, o3, none⟩ x3) e cs :=
  (((h.far (p := ⟨g, o0, none⟩) hp x0).far (p := ⟨g, o1, none⟩) hp x1).far (p := ⟨g, o2, none⟩) hp x2).far (p := ⟨g, o3, none⟩) hp x3

theorem ey_gz (e : Gz) (a : Int) (w : World) : Calls Try.prog 13 #[.agg #[.bool e.bg, .int .i64 e.ba, .bool e.sh, .bool e.on, .int .i64 e.rn, .int .i64 e.wt, .int .i64 e.ru, .int .i64 e.ra], .agg #[.int .i64 a, .int .i64 0, .int .i64 0, .int .i64 0, .bool false, .int .i64 0, .bool false, .int .i64 0]] w fun x w' =>
    x = .returned (.tuple #[.agg #[.bool (gzN e a).bg, .int .i64 (gzN e a).ba, .bool (gzN e a).sh, .bool (gzN e a).on, .int .i64 (gzN e a).rn, .int .i64 (gzN e a).wt, .int .i64 (gzN e a).ru, .int .i64 (gzN e a).ra], .agg #[.bool (gzD e a), .bool (gzS e a), .bool (gzT e a), .bool (gzF e a)]]) ∧ Below w.heap.size w w' :=
  ey_step e.bg e.ba e.sh e.on e.rn e.wt e.ru e.ra a 0 0 0 false 0 false 0 w

attribute [local go_sem] cell_set_ite Near.cell Near.frozen
set_option maxHeartbeats 4000000 in
theorem ey_look (A : Option Addr) (n c : Nat) (xs : List Int) (w : World) (h : Ints w A n xs) (hn : n ≤ 17592186044416) :
    Calls Try.prog 16 #[.slice A n c] w fun e w' => ∃ g, e = .returned (.slice (some ⟨g, 0, none⟩) n n) ∧ Sees w' g n (snB xs) ∧ Below w.heap.size w w' := by
  have HI := Lib.hid h
  obtain ⟨i0, hi0, hz0, hz1, hz2⟩ := info_parts seen_info
  have hmk := run_make (P := Try.prog) w 35 31 i0 _ Try.underlying35 hi0 hz0 .i64 .i64 n n (by omega) (by omega) (by rw [hz2]; omega) (by omega)
  rw [hz1, Int.toNat_natCast] at hmk
  obtain ⟨w1, hw1⟩ : ∃ w1, w.alloc (.cells (madeCells #[.bool false, .bool false, .bool false, .bool false] (n * 4)) 31) = w1 := ⟨_, rfl⟩
  have S1 := sees_new w n 31
  have A1 : Below w.heap.size w w1 := hw1 ▸ below_alloc_on (Below.refl _ _) _
  rw [show (Value.agg #[.bool false, .bool false, .bool false, .bool false]).cells = #[.bool false, .bool false, .bool false, .bool false] from rfl, hw1] at hmk
  rw [hw1] at S1
  clear h hw1 hz0 hz1 hz2 hi0
  go_enter Try.func16, Try.ntmps16
  go_wp2
  have z1 : w.heap.size < w1.heap.size := S1.lt
  have S2 := S1.below (below_alloc_on (Below.refl w1.heap.size w1) (.cells #[.bool false, .int .i64 0, .bool false, .bool false, .int .i64 0, .int .i64 0, .int .i64 0, .int .i64 0] 25))
  have B2 := box_new w1 #[.bool false, .int .i64 0, .bool false, .bool false, .int .i64 0, .int .i64 0, .int .i64 0, .int .i64 0] 25
  have A2 := below_alloc_on A1 (.cells #[.bool false, .int .i64 0, .bool false, .bool false, .int .i64 0, .int .i64 0, .int .i64 0, .int .i64 0] 25)
  clear S1 hmk A1
  generalize w1.alloc (.cells #[.bool false, .int .i64 0, .bool false, .bool false, .int .i64 0, .int .i64 0, .int .i64 0, .int .i64 0] 25) = w2 at *
  generalize w1.heap.size = eb at *
  obtain ⟨g, hg⟩ : ∃ g, w.heap.size = g := ⟨_, rfl⟩
  have ge : g ≠ eb := by omega
  have eg : eb ≠ g := by omega
  have wg : w.heap.size ≤ g := by omega
  have we : w.heap.size ≤ eb := by omega
  rw [hg] at S2
  simp only [hg]
  clear hg z1
  go_loopg [13] n (fun gk i wr => ∃ k : Nat, k ≤ n ∧ gk = n - k ∧ i = .int .i64 k ∧ Below w.heap.size w wr ∧
    Box wr eb #[.bool (gzAt xs k).bg, .int .i64 (gzAt xs k).ba, .bool (gzAt xs k).sh, .bool (gzAt xs k).on, .int .i64 (gzAt xs k).rn, .int .i64 (gzAt xs k).wt, .int .i64 (gzAt xs k).ru, .int .i64 (gzAt xs k).ra] ∧
    Sees wr g n (fun i j => if i < k then snB xs i j else false))
  case atStart => exact ⟨0, by omega, rfl, rfl, A2, B2, S2.congr (fun i j _ _ => by rw [if_neg (by omega)])⟩
  case round =>
    clear A2 B2 S2
    obtain ⟨k, hk, rfl, rfl, A, B, S⟩ := hrel
    by_cases hlt : k < n
    · obtain ⟨b, off, rfl, hbs, hcell⟩ := HI.out.2 (by omega)
      have hck := (A.cell (p := ⟨b, off + k, none⟩) hbs).trans (hcell k hlt)
      clear hcell
      have HE := fun w => ey_gz (gzAt xs k) (xs.getD k 0) w
      have hN : gzAt xs (k + 1) = gzN (gzAt xs k) (xs.getD k 0) := rfl
      have hS : ∀ j, j < 4 → snB xs k j = (match j with | 0 => gzD (gzAt xs k) (xs.getD k 0) | 1 => gzS (gzAt xs k) (xs.getD k 0) | 2 => gzT (gzAt xs k) (xs.getD k 0) | _ => gzF (gzAt xs k) (xs.getD k 0)) := fun j hj => by
        match j, hj with
        | 0, _ => rfl
        | 1, _ => rfl
        | 2, _ => rfl
        | 3, _ => rfl
      have HNX := Lib.hid hN
      have HSX := Lib.hid hS
      clear hN hS
      generalize gzD (gzAt xs k) (xs.getD k 0) = b0 at *
      generalize gzS (gzAt xs k) (xs.getD k 0) = b1 at *
      generalize gzT (gzAt xs k) (xs.getD k 0) = b2 at *
      generalize gzF (gzAt xs k) (xs.getD k 0) = b3 at *
      generalize gzN (gzAt xs k) (xs.getD k 0) = en at *
      generalize xs.getD k 0 = a at *
      generalize gzAt xs k = e0 at *
      have HEX := Lib.hid HE
      clear HE
      obtain ⟨n0, n1, n2, n3, n4, n5, n6, n7⟩ := en
      obtain ⟨m0, m1, m2, m3, m4, m5, m6, m7⟩ := e0
      have HEY := Lib.hid (show ∀ w, Calls Try.prog 13 #[.agg #[.bool m0, .int .i64 m1, .bool m2, .bool m3, .int .i64 m4, .int .i64 m5, .int .i64 m6, .int .i64 m7], .agg #[.int .i64 a, .int .i64 0, .int .i64 0, .int .i64 0, .bool false, .int .i64 0, .bool false, .int .i64 0]] w fun x w' => x = .returned (.tuple #[.agg #[.bool n0, .int .i64 n1, .bool n2, .bool n3, .int .i64 n4, .int .i64 n5, .int .i64 n6, .int .i64 n7], .agg #[.bool b0, .bool b1, .bool b2, .bool b3]]) ∧ Below w.heap.size w w' from HEX.out)
      clear HEX
      replace B : Box wr eb #[.bool m0, .int .i64 m1, .bool m2, .bool m3, .int .i64 m4, .int .i64 m5, .int .i64 m6, .int .i64 m7] := B
      obtain ⟨lB, cB, fB⟩ := id B
      go_wp2_with (fail)
      refine (HEY.out _).mono ?_
      rintro e w3 ⟨rfl, hb⟩
      have A3 := below_call A hb
      have B3 := B.below hb
      have S3 := S.below hb
      clear hb A B S lB cB fB HEY hck
      obtain ⟨lB, cB, fB⟩ := id B3
      have c0 := S3.cell k 0 hlt (by omega)
      have c1 := S3.cell k 1 hlt (by omega)
      have c2 := S3.cell k 2 hlt (by omega)
      have c3 := S3.cell k 3 hlt (by omega)
      rw [Nat.add_zero] at c0
      have fS := S3.frz
      have B5 := Lib.hid <| (Box.eight_set B3 (.bool n0) (.int .i64 n1) (.bool n2) (.bool n3) (.int .i64 n4) (.int .i64 n5) (.int .i64 n6) (.int .i64 n7)).far4 (o0 := k * 4) (o1 := k * 4 + 1) (o2 := k * 4 + 2) (o3 := k * 4 + 3) ge (.bool b0) (.bool b1) (.bool b2) (.bool b3)
      have S5 := Lib.hid <| (S3.far8 eg (.bool n0) (.int .i64 n1) (.bool n2) (.bool n3) (.int .i64 n4) (.int .i64 n5) (.int .i64 n6) (.int .i64 n7)).set4 hlt b0 b1 b2 b3
      go_wp2
      go_roundg (n - (k + 1))
      case measure => omega
      case rel =>
        refine ⟨k + 1, by omega, by omega, by go_num, by (repeat (first | (with_reducible exact Below.refl _ _) | (with_reducible assumption) | (with_reducible refine Near.up _ ?_) | (with_reducible refine Below.drew ?_) | (with_reducible refine below_alloc_on ?_ _) | (with_reducible refine below_set_on ?_ (by first | (simp; done) | (simp; omega) | omega) _))), ?_, S5.out.congr ?_⟩
        · rw [HNX.out]; exact B5.out
        · intro i j hi hj
          by_cases e : i = k
          · subst e
            rw [if_pos rfl, if_pos (by omega), HSX.out j hj]
          · rw [if_neg e]
            by_cases e2 : i < k
            · rw [if_pos e2, if_pos (by omega)]
            · rw [if_neg e2, if_neg (by omega)]
    · obtain rfl : k = n := by omega
      have S5 := Lib.hid (S.congr (f' := snB xs) (fun i j hi _ => if_pos hi))
      clear S B
      go_wp2
      all_goals go_ret
      all_goals exact ⟨g, rfl, S5.out, A⟩
end Go.Proofs.Ytkddledajffdbaa
