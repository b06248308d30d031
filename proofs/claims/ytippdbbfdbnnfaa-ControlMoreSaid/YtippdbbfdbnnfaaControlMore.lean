/- ControlMore holds of every control, goal, and what is seen: of one control more that is seen never opens further. No condition. -/
import Derived.Test.YtippdbbfdbnnfaaCtl
import Derived.Test.YtippdbbfdbnnfaaLeaf
import Derived.Test.YtippdbbfdbnnfaaArr
import Derived.Test.YtippdbbfdbnnfaaBx
import Derived.Deep.CutBlock
import Derived.Deep.DeepCutAuto
namespace Go.Proofs.Ytippdbbfdbnnfaa.controlMore
open Go.ChangeShapes Go.WideShapes Go.ChangeAt Go.RowKit
set_option linter.unusedVariables false
set_option linter.unusedSimpArgs false
attribute [local go_sem] cell_set_ite Near.cell Near.frozen

theorem cl_nn {n : Int} (h : 0 ≤ n) : 0 ≤ clV n := by unfold clV withV; split <;> (try split) <;> (try split) <;> omega
theorem cl_np {n : Int} (h : n ≤ 0) : clV n ≤ 0 := by unfold clV withV; split <;> (try split) <;> (try split) <;> omega
theorem mul_nn {k f : Int} (hk : 0 ≤ k) (hf : 0 ≤ f) : 0 ≤ mulV k f := by unfold mulV; exact cl_nn (Int.mul_nonneg (cl_nn hk) (cl_nn hf))
theorem mul_np {k f : Int} (hk : 0 ≤ k) (hf : f ≤ 0) : mulV k f ≤ 0 := by
  unfold mulV; exact cl_np (Int.mul_nonpos_of_nonneg_of_nonpos (cl_nn hk) (cl_np hf))
theorem cl_ge {n c : Int} (h : c ≤ n) (c0 : 0 ≤ c) (c1 : c ≤ 19660800) : c ≤ clV n := by unfold clV withV; split <;> (try split) <;> (try split) <;> omega
theorem cl_le {n c : Int} (h : n ≤ c) (c0 : 0 ≤ c) (c1 : c ≤ 19660800) : clV n ≤ c := by unfold clV withV; split <;> (try split) <;> (try split) <;> omega
theorem add_ge {X c : Int} (hX : 0 ≤ X) (c0 : 0 ≤ c) (c1 : c ≤ 19660800) : c ≤ addV X c ∧ c ≤ addV c X := by
  have h := cl_nn hX
  unfold addV
  rw [clV_in (n := c) (by omega)]
  exact ⟨cl_ge (by omega) c0 c1, cl_ge (by omega) c0 c1⟩
theorem add_le {X c : Int} (hX : X ≤ 0) (c0 : 0 ≤ c) (c1 : c ≤ 19660800) : addV X c ≤ c ∧ addV c X ≤ c := by
  have h := cl_np hX
  unfold addV
  rw [clV_in (n := c) (by omega)]
  exact ⟨cl_le (by omega) c0 c1, cl_le (by omega) c0 c1⟩
theorem cou_mono {a b : Int} (h : a ≤ b) : couV a ≤ couV b := by unfold couV; omega
theorem as_is (s f kp : Int) : asV s f kp = addV (mulV kp f) (couV s) / 65536 := by
  unfold asV; exact fl_pos (by have := clV_bd (clV (mulV kp f) + clV (couV s)); unfold addV; omega) (by omega) (by omega)
/-- Too little never closes, too much never opens. -/
theorem out_ge {s f kp ki : Int} (hp : 0 ≤ kp) (hi : 0 ≤ ki) (hf : 0 ≤ f) : min (max (couV s / 65536) 0) 300 ≤ piO s f kp ki := by
  have hc := cou_bd s
  have h1 : couV s ≤ piS s f kp ki := by
    unfold piS suV
    split
    · omega
    · have := cou_mono (add_ge (mul_nn hi hf) hc.1 hc.2).2
      rw [cou_cou] at this; exact this
  have hc2 : couV s ≤ couV (piS s f kp ki) := by have := cou_mono h1; rwa [cou_cou] at this
  have hb := cou_bd (piS s f kp ki)
  have h2 := (add_ge (mul_nn hp hf) hb.1 hb.2).1
  unfold piO ouV
  rw [as_is]
  omega
theorem out_le {s f kp ki : Int} (hp : 0 ≤ kp) (hi : 0 ≤ ki) (hf : f ≤ 0) : piO s f kp ki ≤ min (max (couV s / 65536) 0) 300 := by
  have hc := cou_bd s
  have h1 : piS s f kp ki ≤ couV s := by
    unfold piS suV
    split
    · omega
    · have := cou_mono (add_le (mul_np hi hf) hc.1 hc.2).2
      rw [cou_cou] at this; exact this
  have hc2 : couV (piS s f kp ki) ≤ couV s := by have := cou_mono h1; rwa [cou_cou] at this
  have hb := cou_bd (piS s f kp ki)
  have h2 := (add_le (mul_np hp hf) hb.1 hb.2).1
  unfold piO ouV
  rw [as_is]
  omega
theorem we_nn {k g : Int} (hk : 0 ≤ k) (k1 : k ≤ 100) (g0 : 64 ≤ g) (g1 : g ≤ 1024) : 0 ≤ weV k g := by
  unfold weV mqV
  rw [clV_in (n := 256) (by omega), if_neg (by omega), clV_in (n := k) (by omega), clV_in (n := g) (by omega)]
  refine cl_nn ?_
  unfold flo
  rw [if_pos (by omega)]
  exact Int.ediv_nonneg (Int.mul_nonneg hk (by omega)) (by omega)
theorem more {s g o w a b : Int} (o0 : 0 ≤ o) (o1 : o ≤ 300) (w0 : 0 ≤ w) (w1 : w ≤ 1000000) (a0 : 0 ≤ a) (a1 : a ≤ w) (b0 : w ≤ b) (b1 : b ≤ 4000000) : cnO s g o w b ≤ cnO s g o w a := by
  have hs : ∀ x : Int, 0 ≤ x → x ≤ 4000000 → subV w x = w - x := fun x x0 x1 => by
    unfold subV; rw [clV_in (n := w) (by omega), clV_in (n := x) (by omega), clV_in (by omega)]
  have hg : ∀ x : Int, 64 ≤ cnG g w x ∧ cnG g w x ≤ 1024 := fun x => by
    unfold cnG gnV
    split
    · exact ga_bd _
    · split <;> exact ga_bd _
  have h1 := out_ge (s := s) (f := subV w a) (we_nn (k := 16) (by omega) (by omega) (hg a).1 (hg a).2) (we_nn (k := 4) (by omega) (by omega) (hg a).1 (hg a).2) (by rw [hs a a0 (by omega)]; omega)
  have h2 := out_le (s := s) (f := subV w b) (we_nn (k := 16) (by omega) (by omega) (hg b).1 (hg b).2) (we_nn (k := 4) (by omega) (by omega) (hg b).1 (hg b).2) (by rw [hs b (by omega) b1]; omega)
  unfold cnO slV fuV
  omega

/-- A world is forgotten, but for what is said of it. -/
theorem at_world {c : Code} {P : Program} {Q : Exit → Act → World → Prop} {a : Act} {w : World} (C : World → Prop) (h : C w) (k : ∀ W', C W' → c.wp P Q a W') : c.wp P Q a w := k w h
theorem box_cast {w : World} {g : Nat} {cs cs' : Array Value} (h : Box w g cs) (e : cs = cs') : Box w g cs' := e ▸ h
theorem cut_in {T G : Prop} (h : T) (k : T → G) : G := k h

set_option maxRecDepth 100000 in
set_option maxHeartbeats 16000000 in
theorem some_ (s g o : Int) (a u v : Int) (g0 : 64 ≤ g) (g1 : g ≤ 1024) (o0 : 0 ≤ o) (o1 : o ≤ 300) (a0 : 0 ≤ a) (a1 : a ≤ 4294967295) (u0 : 0 ≤ u) (u1 : u ≤ 4294967295) (v0 : 0 ≤ v) (v1 : v ≤ 4294967295) (W : World) :
    Calls Try.prog 11 #[.agg #[.int .i64 s, .int .i64 g, .int .i64 o], .int .u32 a, .agg #[.int .u32 u, .int .u32 v]] W fun e W' => e = .returned (.bool true) ∧ Below W.heap.size W W' := by
  have A : Below W.heap.size W W := Below.refl _ _
  obtain ⟨m, hm⟩ : ∃ m, a % 1000001 = m := ⟨_, rfl⟩
  have m0 : 0 ≤ m := by omega
  have m1 : m ≤ 1000000 := by omega
  obtain ⟨x, hx⟩ : ∃ x, min u v % 4000000 = x := ⟨_, rfl⟩
  obtain ⟨y, hy⟩ : ∃ y, max x (max u v % 4000000) = y := ⟨_, rfl⟩
  have x0 : 0 ≤ x := by omega
  have x1 : x ≤ 4000000 := by omega
  have y0 : x ≤ y := by omega
  have y1 : y ≤ 4000000 := by omega
  go_enter Try.func11, Try.ntmps11
  go_upto_region 6 with fail
  simp only [hx, hy, hm]
  clear hx hy hm
  have HX := Lib.hid (fun w => ct_step s g o m x true false w)
  have HY := Lib.hid (fun w => ct_step s g o m y true false w)
  have HM : Hid (x ≤ m → m ≤ y → coO s g o m y true false ≤ coO s g o m x true false) := Lib.hid (fun h1 h2 => more o0 o1 m0 m1 x0 h1 h2 y1)
  generalize coS s g m x true false = S1 at *
  generalize coG g m x true false = G1 at *
  generalize coO s g o m x true false = O1 at *
  generalize coS s g m y true false = S2 at *
  generalize coG g m y true false = G2 at *
  generalize coO s g o m y true false = O2 at *
  have X0 : Bx W W.heap.size #[.int .i64 s, .int .i64 g, .int .i64 o] (W.alloc (.cells #[.int .i64 s, .int .i64 g, .int .i64 o] 67)) := ⟨box_new _ _ _, below_alloc_on A _, Nat.le_refl _⟩
  go_cut [10, 11] (fun p q wx => ∃ d e, p = .pointer (some ⟨d, 0, none⟩) ∧ q = .pointer (some ⟨e, 0, none⟩) ∧ Below W.heap.size W wx ∧ Box wx d #[.int .i64 S1, .int .i64 G1, .int .i64 O1] ∧ Box wx e #[.int .i64 S2, .int .i64 G2, .int .i64 O2])
  case first =>
    refine at_world (fun w => Bx W W.heap.size #[.int .i64 s, .int .i64 g, .int .i64 o] w) (X0.alloc _) ?_
    clear X0
    rintro w0 X0
    have l0 := X0.lt
    go_region_held3 (fun w' => w'.cell? ⟨W.heap.size, 0, none⟩ = some (.int .i64 s) ∧ w'.cell? ⟨W.heap.size, 1, none⟩ = some (.int .i64 g) ∧ w'.cell? ⟨W.heap.size, 2, none⟩ = some (.int .i64 o) ∧ W.heap.size < w'.heap.size ∧ Bx W W.heap.size #[.int .i64 s, .int .i64 g, .int .i64 o] w')
      ((exact ⟨Bx.cell (W := W) (g := W.heap.size) (cs := #[.int .i64 s, .int .i64 g, .int .i64 o]) (by (repeat (first | (with_reducible assumption) | (exact (by with_reducible assumption : (_ : World).cell? ⟨W.heap.size, 0, none⟩ = some (.int .i64 s) ∧ (_ : World).cell? ⟨W.heap.size, 1, none⟩ = some (.int .i64 g) ∧ (_ : World).cell? ⟨W.heap.size, 2, none⟩ = some (.int .i64 o) ∧ W.heap.size < (_ : World).heap.size ∧ Bx W W.heap.size #[.int .i64 s, .int .i64 g, .int .i64 o] (_ : World)).2.2.2.2) | (with_reducible refine Bx.call ?_ hb) | (with_reducible refine Bx.drew ?_) | (with_reducible refine Bx.alloc ?_ _) | (with_reducible refine Bx.far2 ?_ (by first | (dsimp only; omega) | omega | (simp; done) | (simp; omega) | omega) (by first | (dsimp only; omega) | omega | (simp; done) | (simp; omega) | omega) _)))) 0 _ rfl, Bx.cell (W := W) (g := W.heap.size) (cs := #[.int .i64 s, .int .i64 g, .int .i64 o]) (by (repeat (first | (with_reducible assumption) | (exact (by with_reducible assumption : (_ : World).cell? ⟨W.heap.size, 0, none⟩ = some (.int .i64 s) ∧ (_ : World).cell? ⟨W.heap.size, 1, none⟩ = some (.int .i64 g) ∧ (_ : World).cell? ⟨W.heap.size, 2, none⟩ = some (.int .i64 o) ∧ W.heap.size < (_ : World).heap.size ∧ Bx W W.heap.size #[.int .i64 s, .int .i64 g, .int .i64 o] (_ : World)).2.2.2.2) | (with_reducible refine Bx.call ?_ hb) | (with_reducible refine Bx.drew ?_) | (with_reducible refine Bx.alloc ?_ _) | (with_reducible refine Bx.far2 ?_ (by first | (dsimp only; omega) | omega | (simp; done) | (simp; omega) | omega) (by first | (dsimp only; omega) | omega | (simp; done) | (simp; omega) | omega) _)))) 1 _ rfl, Bx.cell (W := W) (g := W.heap.size) (cs := #[.int .i64 s, .int .i64 g, .int .i64 o]) (by (repeat (first | (with_reducible assumption) | (exact (by with_reducible assumption : (_ : World).cell? ⟨W.heap.size, 0, none⟩ = some (.int .i64 s) ∧ (_ : World).cell? ⟨W.heap.size, 1, none⟩ = some (.int .i64 g) ∧ (_ : World).cell? ⟨W.heap.size, 2, none⟩ = some (.int .i64 o) ∧ W.heap.size < (_ : World).heap.size ∧ Bx W W.heap.size #[.int .i64 s, .int .i64 g, .int .i64 o] (_ : World)).2.2.2.2) | (with_reducible refine Bx.call ?_ hb) | (with_reducible refine Bx.drew ?_) | (with_reducible refine Bx.alloc ?_ _) | (with_reducible refine Bx.far2 ?_ (by first | (dsimp only; omega) | omega | (simp; done) | (simp; omega) | omega) (by first | (dsimp only; omega) | omega | (simp; done) | (simp; omega) | omega) _)))) 2 _ rfl, Bx.lt (W := W) (g := W.heap.size) (cs := #[.int .i64 s, .int .i64 g, .int .i64 o]) (by (repeat (first | (with_reducible assumption) | (exact (by with_reducible assumption : (_ : World).cell? ⟨W.heap.size, 0, none⟩ = some (.int .i64 s) ∧ (_ : World).cell? ⟨W.heap.size, 1, none⟩ = some (.int .i64 g) ∧ (_ : World).cell? ⟨W.heap.size, 2, none⟩ = some (.int .i64 o) ∧ W.heap.size < (_ : World).heap.size ∧ Bx W W.heap.size #[.int .i64 s, .int .i64 g, .int .i64 o] (_ : World)).2.2.2.2) | (with_reducible refine Bx.call ?_ hb) | (with_reducible refine Bx.drew ?_) | (with_reducible refine Bx.alloc ?_ _) | (with_reducible refine Bx.far2 ?_ (by first | (dsimp only; omega) | omega | (simp; done) | (simp; omega) | omega) (by first | (dsimp only; omega) | omega | (simp; done) | (simp; omega) | omega) _)))), (by (repeat (first | (with_reducible assumption) | (exact (by with_reducible assumption : (_ : World).cell? ⟨W.heap.size, 0, none⟩ = some (.int .i64 s) ∧ (_ : World).cell? ⟨W.heap.size, 1, none⟩ = some (.int .i64 g) ∧ (_ : World).cell? ⟨W.heap.size, 2, none⟩ = some (.int .i64 o) ∧ W.heap.size < (_ : World).heap.size ∧ Bx W W.heap.size #[.int .i64 s, .int .i64 g, .int .i64 o] (_ : World)).2.2.2.2) | (with_reducible refine Bx.call ?_ hb) | (with_reducible refine Bx.drew ?_) | (with_reducible refine Bx.alloc ?_ _) | (with_reducible refine Bx.far2 ?_ (by first | (dsimp only; omega) | omega | (simp; done) | (simp; omega) | omega) (by first | (dsimp only; omega) | omega | (simp; done) | (simp; omega) | omega) _))))⟩))
      (first | (go_at_call 39; ((with_reducible refine (HX.out _).mono ?_); rintro e w3 ⟨rfl, hb⟩); have Y0 : Bx W W.heap.size #[.int .i64 s, .int .i64 g, .int .i64 o] w3 := (by (repeat (first | (with_reducible assumption) | (exact (by with_reducible assumption : (_ : World).cell? ⟨W.heap.size, 0, none⟩ = some (.int .i64 s) ∧ (_ : World).cell? ⟨W.heap.size, 1, none⟩ = some (.int .i64 g) ∧ (_ : World).cell? ⟨W.heap.size, 2, none⟩ = some (.int .i64 o) ∧ W.heap.size < (_ : World).heap.size ∧ Bx W W.heap.size #[.int .i64 s, .int .i64 g, .int .i64 o] (_ : World)).2.2.2.2) | (with_reducible refine Bx.call ?_ hb) | (with_reducible refine Bx.drew ?_) | (with_reducible refine Bx.alloc ?_ _) | (with_reducible refine Bx.far2 ?_ (by first | (dsimp only; omega) | omega | (simp; done) | (simp; omega) | omega) (by first | (dsimp only; omega) | omega | (simp; done) | (simp; omega) | omega) _)))); have y0 := Y0.lt; (have s3 : w0.heap.size ≤ w3.heap.size := Nat.le_trans (by first | (simp; done) | (simp; omega)) hb.size); (try (refine cut_in (T := Box w3 (w0.heap.size) #[.int .i64 0, .int .i64 0, .int .i64 0]) ?_ ?_; (focus ((refine Box.below (g := w0.heap.size) ?_ hb); (repeat (first | (with_reducible assumption) | (with_reducible exact box_new _ _ _) | ((with_reducible apply box_at); (first | (with_reducible rfl) | (simp <;> omega))) | (with_reducible apply Box.drew) | (with_reducible apply Box.drewN) | (with_reducible apply Box.near) | (with_reducible apply Box.alloc) | ((with_reducible apply box_far); (first | assumption | omega | (simp <;> omega))) | ((with_reducible apply Box.one_set); (with_reducible assumption)) | ((with_reducible apply Box.two_set); (with_reducible assumption)) | ((with_reducible apply Box.three_set); (with_reducible assumption)) | (with_reducible apply Box.set) | (simp only [List.size_toArray, List.length_cons, List.length_nil, Array.size_setIfInBounds] <;> omega))); done)); intro Za; have la := Za.1; have ca := Za.2.1; have fa := Za.2.2)); (try (refine cut_in (T := Box w3 (w0.heap.size + 1) #[.int .i64 0, .int .i64 0, .int .i64 0]) ?_ ?_; (focus ((refine Box.below (g := w0.heap.size + 1) ?_ hb); (repeat (first | (with_reducible assumption) | (with_reducible exact box_new _ _ _) | ((with_reducible apply box_at); (first | (with_reducible rfl) | (simp <;> omega))) | (with_reducible apply Box.drew) | (with_reducible apply Box.drewN) | (with_reducible apply Box.near) | (with_reducible apply Box.alloc) | ((with_reducible apply box_far); (first | assumption | omega | (simp <;> omega))) | ((with_reducible apply Box.one_set); (with_reducible assumption)) | ((with_reducible apply Box.two_set); (with_reducible assumption)) | ((with_reducible apply Box.three_set); (with_reducible assumption)) | (with_reducible apply Box.set) | (simp only [List.size_toArray, List.length_cons, List.length_nil, Array.size_setIfInBounds] <;> omega))); done)); intro Zb; have lb := Zb.1; have cb := Zb.2.1; have fb := Zb.2.2)); clear hb) | (go_at_call 39; ((with_reducible refine (HY.out _).mono ?_); rintro e w4 ⟨rfl, hb⟩); have Y0 : Bx W W.heap.size #[.int .i64 s, .int .i64 g, .int .i64 o] w4 := (by (repeat (first | (with_reducible assumption) | (exact (by with_reducible assumption : (_ : World).cell? ⟨W.heap.size, 0, none⟩ = some (.int .i64 s) ∧ (_ : World).cell? ⟨W.heap.size, 1, none⟩ = some (.int .i64 g) ∧ (_ : World).cell? ⟨W.heap.size, 2, none⟩ = some (.int .i64 o) ∧ W.heap.size < (_ : World).heap.size ∧ Bx W W.heap.size #[.int .i64 s, .int .i64 g, .int .i64 o] (_ : World)).2.2.2.2) | (with_reducible refine Bx.call ?_ hb) | (with_reducible refine Bx.drew ?_) | (with_reducible refine Bx.alloc ?_ _) | (with_reducible refine Bx.far2 ?_ (by first | (dsimp only; omega) | omega | (simp; done) | (simp; omega) | omega) (by first | (dsimp only; omega) | omega | (simp; done) | (simp; omega) | omega) _)))); have y0 := Y0.lt; (have s4 : w3.heap.size ≤ w4.heap.size := Nat.le_trans (by first | (simp; done) | (simp; omega)) hb.size); (try (refine cut_in (T := Box w4 (w0.heap.size) #[.int .i64 0, .int .i64 0, .int .i64 0]) ?_ ?_; (focus ((refine Box.below (g := w0.heap.size) ?_ hb); (repeat (first | (with_reducible assumption) | (with_reducible exact box_new _ _ _) | ((with_reducible apply box_at); (first | (with_reducible rfl) | (simp <;> omega))) | (with_reducible apply Box.drew) | (with_reducible apply Box.drewN) | (with_reducible apply Box.near) | (with_reducible apply Box.alloc) | ((with_reducible apply box_far); (first | assumption | omega | (simp <;> omega))) | ((with_reducible apply Box.one_set); (with_reducible assumption)) | ((with_reducible apply Box.two_set); (with_reducible assumption)) | ((with_reducible apply Box.three_set); (with_reducible assumption)) | (with_reducible apply Box.set) | (simp only [List.size_toArray, List.length_cons, List.length_nil, Array.size_setIfInBounds] <;> omega))); done)); intro Zc; have lc := Zc.1; have cc := Zc.2.1; have fc := Zc.2.2)); (try (refine cut_in (T := Box w4 (w0.heap.size + 1) #[.int .i64 0, .int .i64 0, .int .i64 0]) ?_ ?_; (focus ((refine Box.below (g := w0.heap.size + 1) ?_ hb); (repeat (first | (with_reducible assumption) | (with_reducible exact box_new _ _ _) | ((with_reducible apply box_at); (first | (with_reducible rfl) | (simp <;> omega))) | (with_reducible apply Box.drew) | (with_reducible apply Box.drewN) | (with_reducible apply Box.near) | (with_reducible apply Box.alloc) | ((with_reducible apply box_far); (first | assumption | omega | (simp <;> omega))) | ((with_reducible apply Box.one_set); (with_reducible assumption)) | ((with_reducible apply Box.two_set); (with_reducible assumption)) | ((with_reducible apply Box.three_set); (with_reducible assumption)) | (with_reducible apply Box.set) | (simp only [List.size_toArray, List.length_cons, List.length_nil, Array.size_setIfInBounds] <;> omega))); done)); intro Zd; have ld := Zd.1; have cd := Zd.2.1; have fd := Zd.2.2)); (try (refine cut_in (T := Box w4 (w3.heap.size) #[.int .i64 0, .int .i64 0, .int .i64 0]) ?_ ?_; (focus ((refine Box.below (g := w3.heap.size) ?_ hb); (repeat (first | (with_reducible assumption) | (with_reducible exact box_new _ _ _) | ((with_reducible apply box_at); (first | (with_reducible rfl) | (simp <;> omega))) | (with_reducible apply Box.drew) | (with_reducible apply Box.drewN) | (with_reducible apply Box.near) | (with_reducible apply Box.alloc) | ((with_reducible apply box_far); (first | assumption | omega | (simp <;> omega))) | ((with_reducible apply Box.one_set); (with_reducible assumption)) | ((with_reducible apply Box.two_set); (with_reducible assumption)) | ((with_reducible apply Box.three_set); (with_reducible assumption)) | (with_reducible apply Box.set) | (simp only [List.size_toArray, List.length_cons, List.length_nil, Array.size_setIfInBounds] <;> omega))); done)); intro Ze; have le := Ze.1; have ce := Ze.2.1; have fe := Ze.2.2)); (try (refine cut_in (T := Box w4 (w3.heap.size + 1) #[.int .i64 0, .int .i64 0, .int .i64 0]) ?_ ?_; (focus ((refine Box.below (g := w3.heap.size + 1) ?_ hb); (repeat (first | (with_reducible assumption) | (with_reducible exact box_new _ _ _) | ((with_reducible apply box_at); (first | (with_reducible rfl) | (simp <;> omega))) | (with_reducible apply Box.drew) | (with_reducible apply Box.drewN) | (with_reducible apply Box.near) | (with_reducible apply Box.alloc) | ((with_reducible apply box_far); (first | assumption | omega | (simp <;> omega))) | ((with_reducible apply Box.one_set); (with_reducible assumption)) | ((with_reducible apply Box.two_set); (with_reducible assumption)) | ((with_reducible apply Box.three_set); (with_reducible assumption)) | (with_reducible apply Box.set) | (simp only [List.size_toArray, List.length_cons, List.length_nil, Array.size_setIfInBounds] <;> omega))); done)); intro Zf; have lf := Zf.1; have cf := Zf.2.1; have ff := Zf.2.2)); clear hb))
    all_goals go_wp2_with (fail)
    go_goals
    all_goals go_meet
    all_goals exact ⟨_, _, rfl, rfl, by (have A4 := Y0.bel; (repeat (first | (with_reducible exact Below.refl _ _) | (with_reducible assumption) | (with_reducible refine Near.up _ ?_) | (with_reducible refine Below.drew ?_) | (with_reducible refine below_alloc_on ?_ _) | (with_reducible refine below_set_on ?_ (by first | (simp; done) | (simp; omega) | omega) _)))), box_cast (by (repeat (first | (with_reducible assumption) | (with_reducible exact box_new _ _ _) | ((with_reducible apply box_at); (first | (with_reducible rfl) | (simp <;> omega))) | (with_reducible apply Box.drew) | (with_reducible apply Box.drewN) | (with_reducible apply Box.near) | (with_reducible apply Box.alloc) | ((with_reducible apply box_far); (first | assumption | omega | (simp <;> omega))) | ((with_reducible apply Box.one_set); (with_reducible assumption)) | ((with_reducible apply Box.two_set); (with_reducible assumption)) | ((with_reducible apply Box.three_set); (with_reducible assumption)) | (with_reducible apply Box.set) | (simp only [List.size_toArray, List.length_cons, List.length_nil, Array.size_setIfInBounds] <;> omega)))) (by first | rfl | simp), box_cast (by (repeat (first | (with_reducible assumption) | (with_reducible exact box_new _ _ _) | ((with_reducible apply box_at); (first | (with_reducible rfl) | (simp <;> omega))) | (with_reducible apply Box.drew) | (with_reducible apply Box.drewN) | (with_reducible apply Box.near) | (with_reducible apply Box.alloc) | ((with_reducible apply box_far); (first | assumption | omega | (simp <;> omega))) | ((with_reducible apply Box.one_set); (with_reducible assumption)) | ((with_reducible apply Box.two_set); (with_reducible assumption)) | ((with_reducible apply Box.three_set); (with_reducible assumption)) | (with_reducible apply Box.set) | (simp only [List.size_toArray, List.length_cons, List.length_nil, Array.size_setIfInBounds] <;> omega)))) (by first | rfl | simp)⟩
  case rest =>
    obtain ⟨d, e, rfl, rfl, A, D, E⟩ := hcut
    obtain ⟨lD, cD, fD⟩ := id D
    obtain ⟨lE, cE, fE⟩ := id E
    clear HX HY X0
    by_cases h1 : m < x
    · go_wp2_with (fail)
      refine (law30_awake _).mono ?_
      rintro e w5 ⟨rfl, hb⟩
      replace A : Below W.heap.size W w5 := by (refine below_call ?_ hb; (repeat (first | (with_reducible exact Below.refl _ _) | (with_reducible assumption) | (with_reducible refine Near.up _ ?_) | (with_reducible refine Below.drew ?_) | (with_reducible refine below_alloc_on ?_ _) | (with_reducible refine below_set_on ?_ (by first | (simp; done) | (simp; omega) | omega) _))))
      clear hb
      have z_w5 : W.heap.size ≤ w5.heap.size := A.size
      go_wp2
      all_goals go_ret
      all_goals exact ⟨rfl, A⟩
    · by_cases h2 : y < m
      · go_wp2_with (fail)
        refine (law30_awake _).mono ?_
        rintro e w5 ⟨rfl, hb⟩
        replace A : Below W.heap.size W w5 := by (refine below_call ?_ hb; (repeat (first | (with_reducible exact Below.refl _ _) | (with_reducible assumption) | (with_reducible refine Near.up _ ?_) | (with_reducible refine Below.drew ?_) | (with_reducible refine below_alloc_on ?_ _) | (with_reducible refine below_set_on ?_ (by first | (simp; done) | (simp; omega) | omega) _))))
        clear hb
        have z_w5 : W.heap.size ≤ w5.heap.size := A.size
        go_wp2
        all_goals go_ret
        all_goals exact ⟨rfl, A⟩
      · have h3 := HM.out (by omega) (by omega)
        go_wp2_with (fail)
        refine (law30_awake _).mono ?_
        rintro e w5 ⟨rfl, hb⟩
        replace A : Below W.heap.size W w5 := by (refine below_call ?_ hb; (repeat (first | (with_reducible exact Below.refl _ _) | (with_reducible assumption) | (with_reducible refine Near.up _ ?_) | (with_reducible refine Below.drew ?_) | (with_reducible refine below_alloc_on ?_ _) | (with_reducible refine below_set_on ?_ (by first | (simp; done) | (simp; omega) | omega) _))))
        clear hb
        have z_w5 : W.heap.size ≤ w5.heap.size := A.size
        go_wp2
        all_goals go_ret
        all_goals exact ⟨rfl, A⟩

theorem walk (s : Int) (ws : (Lit.int .i64 s).wf = true) (g : Int) (wg : (Lit.int .i64 g).wf = true) (o : Int) (wo : (Lit.int .i64 o).wf = true) (a : Int) (wa : (Lit.int .u32 a).wf = true) (u : Int) (wu : (Lit.int .u32 u).wf = true) (v : Int) (wv : (Lit.int .u32 v).wf = true) (W : World) :
    Calls Try.prog 11 #[.agg #[.int .i64 s, .int .i64 g, .int .i64 o], .int .u32 a, .agg #[.int .u32 u, .int .u32 v]] W fun e W' => e = .returned (.bool true) ∧ Below W.heap.size W W' := by
  simp only [Lit.wf, IntKind.min, IntKind.max, IntKind.signed, IntKind.bits, Bool.and_eq_true] at wa wu wv
  simp at wa wu wv
  clear ws wg wo
  have A : Below W.heap.size W W := Below.refl _ _
  by_cases h : 64 ≤ g ∧ g ≤ 1024 ∧ 0 ≤ o ∧ o ≤ 300
  · obtain ⟨g0, g1, o0, o1⟩ := h
    exact some_ s g o a u v g0 g1 o0 o1 (by omega) (by omega) (by omega) (by omega) (by omega) (by omega) W
  · rcases (by omega : g < 64 ∨ (64 ≤ g ∧ 1024 < g) ∨ (64 ≤ g ∧ g ≤ 1024 ∧ o < 0) ∨ (64 ≤ g ∧ g ≤ 1024 ∧ 0 ≤ o ∧ 300 < o)) with h1 | ⟨h1, h2⟩ | ⟨h1, h2, h3⟩ | ⟨h1, h2, h3, h4⟩
    all_goals
      clear h
      go_enter Try.func11, Try.ntmps11
      go_wp2_with (fail)
      refine (law30_awake _).mono ?_
      rintro e w5 ⟨rfl, hb⟩
      replace A : Below W.heap.size W w5 := by (refine below_call ?_ hb; (repeat (first | (with_reducible exact Below.refl _ _) | (with_reducible assumption) | (with_reducible refine Near.up _ ?_) | (with_reducible refine Below.drew ?_) | (with_reducible refine below_alloc_on ?_ _) | (with_reducible refine below_set_on ?_ (by first | (simp; done) | (simp; omega) | omega) _))))
      clear hb
      have z_w5 : W.heap.size ≤ w5.heap.size := A.size
      go_wp2
      all_goals go_ret
      all_goals exact ⟨rfl, A⟩

set_option maxRecDepth 100000 in
theorem lifted (os : Os) (started : os.Started) (H : Type) (enc : TypeId × Value → H) :
    ReturnsInHanded {} Try.checked os 11 .any (Rows.controlMoreSpec.pre6 enc Try.prog Try.f11 Rows.controlMoreRow.domain false) (Rows.controlMoreSpec.post enc Try.prog Try.f11 false true false false) := by
  refine law_lift started (by kernel_rfl) Try.func11 rfl rfl ?_ (by kernel_rfl)
    (ChangeSpec.witness6 (enc := enc) (C := Try.checked) false ⟨#[], #[.agg #[.int .i64 0, .int .i64 0, .int .i64 0], .int .u32 0, .agg #[.int .u32 0, .int .u32 0]], []⟩ 8 (by kernel_rfl) (by kernel_rfl) (by kernel_rfl) (by kernel_rfl)) ?_
  · intro ds hl
    match ds, hl with
    | [_, _, _], _ => exact ⟨rfl, rfl, rfl⟩
  · intro W base args ds p hval hA hlt hwt
    rw [Try.params11] at hA hval hwt
    obtain ⟨v0, vs0, d0, ds0, p0, q0, hargs, rfl, rfl, h0, r0⟩ := trodAll_cons hA
    obtain ⟨v1, vs1, d1, ds1, p1, q1, rfl, rfl, rfl, h1, r1⟩ := trodAll_cons r0
    obtain ⟨v2, vs2, d2, ds2, p2, q2, rfl, rfl, rfl, h2, r2⟩ := trodAll_cons r1
    obtain ⟨rfl, rfl, rfl⟩ := trodAll_nil r2
    obtain rfl : args = #[v0, v1, v2] := by cases args; simp_all
    obtain ⟨cs0, rfl, l0, k0⟩ := open_leaves 5 [.int .i64, .int .i64, .int .i64] (by kernel_rfl) (by kernel_rfl) (hval 0 67 v0 rfl rfl) h0
    match cs0, l0, k0 with
    | [y0_0, y0_1, y0_2], _, k0 =>
    obtain ⟨x0_0, e0_0, w0_0⟩ : leafIs (.int .i64) y0_0 := k0 0 _ rfl
    subst e0_0
    obtain ⟨x0_1, e0_1, w0_1⟩ : leafIs (.int .i64) y0_1 := k0 1 _ rfl
    subst e0_1
    obtain ⟨x0_2, e0_2, w0_2⟩ : leafIs (.int .i64) y0_2 := k0 2 _ rfl
    subst e0_2
    obtain ⟨a1, rfl, rfl, rfl, w1⟩ := open_int Try.underlying68 (hval 1 68 v1 rfl rfl) h1
    obtain ⟨cs2, rfl, l2, k2⟩ := open_leaves 5 [.int .u32, .int .u32] (by kernel_rfl) (by kernel_rfl) (hval 2 69 v2 rfl rfl) h2
    match cs2, l2, k2 with
    | [y2_0, y2_1], _, k2 =>
    obtain ⟨x2_0, e2_0, w2_0⟩ : leafIs (.int .u32) y2_0 := k2 0 _ rfl
    subst e2_0
    obtain ⟨x2_1, e2_1, w2_1⟩ : leafIs (.int .u32) y2_1 := k2 1 _ rfl
    subst e2_1
    exact walk x0_0 w0_0 x0_1 w0_1 x0_2 w0_2 a1 w1 x2_0 w2_0 x2_1 w2_1 W

theorem over : Rows.controlMoreRow.holds Try.pinned (OpenSpec.ofChange Rows.controlMoreSpec) :=
  OpenClaim.holds_of_wide 11 Try.f11 rfl rfl rfl rfl rfl rfl rfl ⟨rfl, rfl, rfl, rfl, rfl⟩ rfl rfl rfl rfl rfl (by kernel_rfl) Try.func11 (by kernel_rfl)
    (of_decide_eq_true (by kernel_rfl)) (by unfold Func.isWrapper; first | (rw [if_pos (by decide +kernel)]; kernel_rfl) | (rw [if_neg (by decide +kernel)]; exact ⟨rfl, rfl⟩))
    (fun os started H enc _ => lifted os started H enc)

theorem proved : Rows.ControlMoreSaid := over
#print axioms proved
end Go.Proofs.Ytippdbbfdbnnfaa.controlMore
