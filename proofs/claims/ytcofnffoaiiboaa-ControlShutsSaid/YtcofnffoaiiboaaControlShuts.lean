/- ControlShuts holds of every goal and every list of deeds: what is shut is not open, at once, and as long as it is shut; it opens by no more than 8 at a time, closes by no more than 30, and never leaves its limits. No condition. -/
import Derived.Test.YtcofnffoaiiboaaCtl
import Derived.Test.YtcofnffoaiiboaaLeaf
import Derived.Deep.LoopGhost
import Derived.Deep.CutBlock
namespace Go.Proofs.Ytcofnffoaiiboaa.controlShuts
open Go.ChangeShapes Go.WideShapes Go.ChangeAt Go.RowKit Go.Deep
set_option linter.unusedVariables false
set_option linter.unusedSimpArgs false
attribute [local go_sem] cell_set_ite Near.cell Near.frozen

theorem deeds_of {w : World} {A : Option Addr} {n : Nat} {rs : List (List Value)} (h : Rows [.int .u32, .bool, .bool] w A n rs) :
    ∃ (L : Nat → Int) (F S : Nat → Bool), (∀ i, i < n → 0 ≤ L i ∧ L i ≤ 4294967295) ∧
      (0 < n → ∃ b off, A = some ⟨b, off, Option.none⟩ ∧ b < w.heap.size ∧ ∀ i, i < n → w.cell? ⟨b, off + i * 3, Option.none⟩ = some (.int .u32 (L i)) ∧ w.cell? ⟨b, off + i * 3 + 1, Option.none⟩ = some (.bool (F i)) ∧ w.cell? ⟨b, off + i * 3 + 2, Option.none⟩ = some (.bool (S i))) := by
  have hc : ∀ i, ∃ (l : Int) (f s : Bool), i < n → (rs.getD i []).getD 0 undef = .int .u32 l ∧ (rs.getD i []).getD 1 undef = .bool f ∧ (rs.getD i []).getD 2 undef = .bool s ∧ 0 ≤ l ∧ l ≤ 4294967295 := fun i => by
    by_cases hi : i < n
    · obtain ⟨h0, h1⟩ := h.2.1 i hi
      obtain ⟨l, e0, w0⟩ : leafIs (.int .u32) ((rs.getD i []).getD 0 undef) := h1 0 _ rfl
      obtain ⟨f, e1⟩ : leafIs .bool ((rs.getD i []).getD 1 undef) := h1 1 _ rfl
      obtain ⟨s, e2⟩ : leafIs .bool ((rs.getD i []).getD 2 undef) := h1 2 _ rfl
      simp only [Lit.wf, IntKind.min, IntKind.max, IntKind.signed, IntKind.bits, Bool.and_eq_true] at w0
      simp at w0
      exact ⟨l, f, s, fun _ => ⟨e0, e1, e2, by omega, by omega⟩⟩
    · exact ⟨0, false, false, fun g => absurd g hi⟩
  obtain ⟨L, hL⟩ : ∃ L : Nat → Int, ∀ i, ∃ (f s : Bool), i < n → (rs.getD i []).getD 0 undef = .int .u32 (L i) ∧ (rs.getD i []).getD 1 undef = .bool f ∧ (rs.getD i []).getD 2 undef = .bool s ∧ 0 ≤ L i ∧ L i ≤ 4294967295 := ⟨fun i => Classical.choose (hc i), fun i => Classical.choose_spec (hc i)⟩
  obtain ⟨F, hF⟩ : ∃ F : Nat → Bool, ∀ i, ∃ (s : Bool), i < n → (rs.getD i []).getD 0 undef = .int .u32 (L i) ∧ (rs.getD i []).getD 1 undef = .bool (F i) ∧ (rs.getD i []).getD 2 undef = .bool s ∧ 0 ≤ L i ∧ L i ≤ 4294967295 := ⟨fun i => Classical.choose (hL i), fun i => Classical.choose_spec (hL i)⟩
  obtain ⟨S, hS⟩ : ∃ S : Nat → Bool, ∀ i, i < n → (rs.getD i []).getD 0 undef = .int .u32 (L i) ∧ (rs.getD i []).getD 1 undef = .bool (F i) ∧ (rs.getD i []).getD 2 undef = .bool (S i) ∧ 0 ≤ L i ∧ L i ≤ 4294967295 := ⟨fun i => Classical.choose (hF i), fun i => Classical.choose_spec (hF i)⟩
  refine ⟨L, F, S, fun i hi => (hS i hi).2.2.2, fun h0 => ?_⟩
  obtain ⟨b, off, rfl, hlt, hcell⟩ := h.2.2 h0
  refine ⟨b, off, rfl, hlt, fun i hi => ?_⟩
  obtain ⟨e0, e1, e2, _⟩ := hS i hi
  have c0 := hcell i hi 0 (by decide)
  have c1 := hcell i hi 1 (by decide)
  have c2 := hcell i hi 2 (by decide)
  rw [e0] at c0
  rw [e1] at c1
  rw [e2] at c2
  exact ⟨c0, c1, c2⟩

/-- What a step comes to. -/
theorem step_is {s g o goal seen : Int} {due shut : Bool} (g0 : 64 ≤ g) (g1 : g ≤ 1024) (o0 : 0 ≤ o) (o1 : o ≤ 300) :
    ∃ S G O, coS s g goal seen due shut = S ∧ coG g goal seen due shut = G ∧ coO s g o goal seen due shut = O ∧ 64 ≤ G ∧ G ≤ 1024 ∧ 0 ≤ O ∧ O ≤ 300 ∧ O - o ≤ 8 ∧ (shut = true → O = 0) ∧ (shut = false → o - O ≤ 30) ∧ (shut = false → due = false → S = s ∧ G = g ∧ O = o) := by
  refine ⟨_, _, _, rfl, rfl, rfl, ?_⟩
  unfold coS coG coO cnO cnG
  cases shut
  · cases due
    · simp; omega
    · have hg : 64 ≤ gnV g goal seen ∧ gnV g goal seen ≤ 1024 := by
        unfold gnV
        split
        · exact ga_bd _
        · split <;> exact ga_bd _
      have hf := fu_bd (piO s (subV goal seen) (weV 16 (gnV g goal seen)) (weV 4 (gnV g goal seen)))
      have h8 : fuV 8 = 8 := by decide
      have h30 : fuV 30 = 30 := by decide
      have ho : fuV o = o := by unfold fuV; omega
      simp only [slV, h8, h30, ho]
      generalize fuV (piO s (subV goal seen) (weV 16 (gnV g goal seen)) (weV 4 (gnV g goal seen))) = X at *
      simp
      omega
  · simp; omega

set_option maxRecDepth 100000 in
set_option maxHeartbeats 4000000 in
theorem some_ (W : World) (a : Int) (a0 : 0 ≤ a) (a1 : a ≤ 4294967295) (A0 : Option Addr) (n c : Nat) (L : Nat → Int) (F S : Nat → Bool) (hL : ∀ i, i < n → 0 ≤ L i ∧ L i ≤ 4294967295)
    (hi : 0 < n → ∃ b off, A0 = some ⟨b, off, none⟩ ∧ b < W.heap.size ∧ ∀ i, i < n → W.cell? ⟨b, off + i * 3, none⟩ = some (.int .u32 (L i)) ∧ W.cell? ⟨b, off + i * 3 + 1, none⟩ = some (.bool (F i)) ∧ W.cell? ⟨b, off + i * 3 + 2, none⟩ = some (.bool (S i)))
    (hc : n ≤ c) (hn : n ≤ 100) :
    Calls Try.prog 4 #[.int .u32 a, .slice A0 n c] W fun e W' => e = .returned (.bool true) ∧ Below W.heap.size W W' := by
  have HI := Lib.hid hi
  have HL := Lib.hid hL
  have A : Below W.heap.size W W := Below.refl _ _
  have tn : decide (100 < (n : Int)) = false := decide_eq_false (by omega)
  obtain ⟨m, hm⟩ : ∃ m, a % 1000001 = m := ⟨_, rfl⟩
  have m0 : 0 ≤ m := by omega
  have m1 : m ≤ 1000000 := by omega
  have ⟨be0, be1⟩ := be_bd m
  have HB := Lib.hid (fun w => ct_begin m w)
  generalize beV m = B0 at *
  clear hi hL
  go_enter Try.func4, Try.ntmps4
  go_wp2_with (fail)
  refine (HB.out _).mono ?_
  rintro e w1 ⟨rfl, hb⟩
  replace A : Below W.heap.size W w1 := by (refine below_call ?_ hb; (repeat (first | (with_reducible exact Below.refl _ _) | (with_reducible assumption) | (with_reducible refine Near.up _ ?_) | (with_reducible refine Below.drew ?_) | (with_reducible refine below_alloc_on ?_ _) | (with_reducible refine below_set_on ?_ (by first | (simp; done) | (simp; omega) | omega) _))))
  clear hb
  have z_w1 : W.heap.size ≤ w1.heap.size := A.size
  go_wp2
  clear hm
  replace A := below_alloc_on A (.cells #[.int .i64 (65536 * B0), .int .i64 256, .int .i64 B0] 25)
  have B := box_new w1 #[.int .i64 (65536 * B0), .int .i64 256, .int .i64 B0] 25
  generalize w1.alloc (.cells #[.int .i64 (65536 * B0), .int .i64 256, .int .i64 B0] 25) = w2 at *
  generalize w1.heap.size = q at *
  go_loopg [20] n (fun k i wr => ∃ (j : Nat) (s g o : Int), j ≤ n ∧ k = n - j ∧ i = .int .i64 j ∧ 64 ≤ g ∧ g ≤ 1024 ∧ 0 ≤ o ∧ o ≤ 300 ∧ Below W.heap.size W wr ∧ Box wr q #[.int .i64 s, .int .i64 g, .int .i64 o])
  case atStart => exact ⟨0, _, _, _, Nat.zero_le _, rfl, rfl, by omega, by omega, by omega, by omega, A, B⟩
  case round =>
    clear A B
    obtain ⟨j, s, g, o, hj, rfl, rfl, g0, g1, o0, o1, A, B⟩ := hrel
    by_cases hlt : j < n
    · obtain ⟨b, off, rfl, hbs, hck⟩ := HI.out (show 0 < n by omega)
      obtain ⟨k0, k1, k2⟩ := hck j hlt
      obtain ⟨l0, l1⟩ := HL.out j hlt
      clear hck
      generalize L j = l at *
      generalize F j = f at *
      generalize S j = h at *
      obtain ⟨N, hN⟩ : ∃ N, l % 4000000 = N := ⟨_, rfl⟩
      have hw1 : IntKind.i64.wrap l = l := IntWalk.i64_in _ (by omega)
      have hNt : Int.tmod l 4000000 = N := by rw [Int.tmod_eq_emod_of_nonneg (by omega)]; exact hN
      obtain ⟨S2, G2, O2, e1, e2, e3, p1, p2, p3, p4, p5, p6, p7, p8⟩ := step_is (s := s) (goal := m) (seen := N) (due := f) (shut := h) g0 g1 o0 o1
      have HS := Lib.hid (fun w => ct_step s g o m N f h w)
      rw [e1, e2, e3] at HS
      clear e1 e2 e3
      have H6 := Lib.hid p6
      have H7 := Lib.hid p7
      have H8 := Lib.hid p8
      clear p6 p7 p8
      have K0 := Lib.hid k0
      have K1 := Lib.hid k1
      have K2 := Lib.hid k2
      have X0 : Bx W q #[.int .i64 s, .int .i64 g, .int .i64 o] wr := ⟨B, A, by have := B.1; omega⟩
      have lq := X0.lt
      have zw : W.heap.size ≤ wr.heap.size := A.size
      go_upto_region 8 with fail
      go_cut [8, 20] from 20 to 119 (fun v i wx => ∃ d, v = .pointer (some ⟨d, 0, none⟩) ∧ i = .int .i64 (j : Nat) ∧ d ≠ q ∧ W.heap.size ≤ d ∧ Bx W q #[.int .i64 s, .int .i64 g, .int .i64 o] wx ∧ Box wx d #[.int .i64 S2, .int .i64 G2, .int .i64 O2])
      case first =>
        go_region_held3 (fun w' => w'.cell? ⟨q, 0, none⟩ = some (.int .i64 s) ∧ w'.cell? ⟨q, 1, none⟩ = some (.int .i64 g) ∧ w'.cell? ⟨q, 2, none⟩ = some (.int .i64 o) ∧ q < w'.heap.size ∧ Bx W q #[.int .i64 s, .int .i64 g, .int .i64 o] w' ∧ w'.cell? ⟨b, off + j * 3, none⟩ = some (.int .u32 l) ∧ w'.cell? ⟨b, off + j * 3 + 1, none⟩ = some (.bool f) ∧ w'.cell? ⟨b, off + j * 3 + 2, none⟩ = some (.bool h))
          ((exact ⟨Bx.cell (W := W) (g := q) (cs := #[.int .i64 s, .int .i64 g, .int .i64 o]) (by (repeat (first | assumption | (exact (by assumption : (_ : World).cell? ⟨q, 0, none⟩ = some (.int .i64 s) ∧ (_ : World).cell? ⟨q, 1, none⟩ = some (.int .i64 g) ∧ (_ : World).cell? ⟨q, 2, none⟩ = some (.int .i64 o) ∧ q < (_ : World).heap.size ∧ Bx W q #[.int .i64 s, .int .i64 g, .int .i64 o] (_ : World) ∧ (_ : World).cell? ⟨b, off + j * 3, none⟩ = some (.int .u32 l) ∧ (_ : World).cell? ⟨b, off + j * 3 + 1, none⟩ = some (.bool f) ∧ (_ : World).cell? ⟨b, off + j * 3 + 2, none⟩ = some (.bool h)).2.2.2.2.1) | (refine Bx.call ?_ hb) | (refine Bx.drew ?_) | (refine Bx.alloc ?_ _) | (refine Bx.far2 ?_ (by first | (simp; done) | (simp; omega) | omega) (by first | (simp; done) | (simp; omega) | omega) _)))) 0 _ rfl, Bx.cell (W := W) (g := q) (cs := #[.int .i64 s, .int .i64 g, .int .i64 o]) (by (repeat (first | assumption | (exact (by assumption : (_ : World).cell? ⟨q, 0, none⟩ = some (.int .i64 s) ∧ (_ : World).cell? ⟨q, 1, none⟩ = some (.int .i64 g) ∧ (_ : World).cell? ⟨q, 2, none⟩ = some (.int .i64 o) ∧ q < (_ : World).heap.size ∧ Bx W q #[.int .i64 s, .int .i64 g, .int .i64 o] (_ : World) ∧ (_ : World).cell? ⟨b, off + j * 3, none⟩ = some (.int .u32 l) ∧ (_ : World).cell? ⟨b, off + j * 3 + 1, none⟩ = some (.bool f) ∧ (_ : World).cell? ⟨b, off + j * 3 + 2, none⟩ = some (.bool h)).2.2.2.2.1) | (refine Bx.call ?_ hb) | (refine Bx.drew ?_) | (refine Bx.alloc ?_ _) | (refine Bx.far2 ?_ (by first | (simp; done) | (simp; omega) | omega) (by first | (simp; done) | (simp; omega) | omega) _)))) 1 _ rfl, Bx.cell (W := W) (g := q) (cs := #[.int .i64 s, .int .i64 g, .int .i64 o]) (by (repeat (first | assumption | (exact (by assumption : (_ : World).cell? ⟨q, 0, none⟩ = some (.int .i64 s) ∧ (_ : World).cell? ⟨q, 1, none⟩ = some (.int .i64 g) ∧ (_ : World).cell? ⟨q, 2, none⟩ = some (.int .i64 o) ∧ q < (_ : World).heap.size ∧ Bx W q #[.int .i64 s, .int .i64 g, .int .i64 o] (_ : World) ∧ (_ : World).cell? ⟨b, off + j * 3, none⟩ = some (.int .u32 l) ∧ (_ : World).cell? ⟨b, off + j * 3 + 1, none⟩ = some (.bool f) ∧ (_ : World).cell? ⟨b, off + j * 3 + 2, none⟩ = some (.bool h)).2.2.2.2.1) | (refine Bx.call ?_ hb) | (refine Bx.drew ?_) | (refine Bx.alloc ?_ _) | (refine Bx.far2 ?_ (by first | (simp; done) | (simp; omega) | omega) (by first | (simp; done) | (simp; omega) | omega) _)))) 2 _ rfl, Bx.lt (W := W) (g := q) (cs := #[.int .i64 s, .int .i64 g, .int .i64 o]) (by (repeat (first | assumption | (exact (by assumption : (_ : World).cell? ⟨q, 0, none⟩ = some (.int .i64 s) ∧ (_ : World).cell? ⟨q, 1, none⟩ = some (.int .i64 g) ∧ (_ : World).cell? ⟨q, 2, none⟩ = some (.int .i64 o) ∧ q < (_ : World).heap.size ∧ Bx W q #[.int .i64 s, .int .i64 g, .int .i64 o] (_ : World) ∧ (_ : World).cell? ⟨b, off + j * 3, none⟩ = some (.int .u32 l) ∧ (_ : World).cell? ⟨b, off + j * 3 + 1, none⟩ = some (.bool f) ∧ (_ : World).cell? ⟨b, off + j * 3 + 2, none⟩ = some (.bool h)).2.2.2.2.1) | (refine Bx.call ?_ hb) | (refine Bx.drew ?_) | (refine Bx.alloc ?_ _) | (refine Bx.far2 ?_ (by first | (simp; done) | (simp; omega) | omega) (by first | (simp; done) | (simp; omega) | omega) _)))), (by (repeat (first | assumption | (exact (by assumption : (_ : World).cell? ⟨q, 0, none⟩ = some (.int .i64 s) ∧ (_ : World).cell? ⟨q, 1, none⟩ = some (.int .i64 g) ∧ (_ : World).cell? ⟨q, 2, none⟩ = some (.int .i64 o) ∧ q < (_ : World).heap.size ∧ Bx W q #[.int .i64 s, .int .i64 g, .int .i64 o] (_ : World) ∧ (_ : World).cell? ⟨b, off + j * 3, none⟩ = some (.int .u32 l) ∧ (_ : World).cell? ⟨b, off + j * 3 + 1, none⟩ = some (.bool f) ∧ (_ : World).cell? ⟨b, off + j * 3 + 2, none⟩ = some (.bool h)).2.2.2.2.1) | (refine Bx.call ?_ hb) | (refine Bx.drew ?_) | (refine Bx.alloc ?_ _) | (refine Bx.far2 ?_ (by first | (simp; done) | (simp; omega) | omega) (by first | (simp; done) | (simp; omega) | omega) _)))), ((Bx.bel (W := W) (g := q) (cs := #[.int .i64 s, .int .i64 g, .int .i64 o]) (by (repeat (first | assumption | (exact (by assumption : (_ : World).cell? ⟨q, 0, none⟩ = some (.int .i64 s) ∧ (_ : World).cell? ⟨q, 1, none⟩ = some (.int .i64 g) ∧ (_ : World).cell? ⟨q, 2, none⟩ = some (.int .i64 o) ∧ q < (_ : World).heap.size ∧ Bx W q #[.int .i64 s, .int .i64 g, .int .i64 o] (_ : World) ∧ (_ : World).cell? ⟨b, off + j * 3, none⟩ = some (.int .u32 l) ∧ (_ : World).cell? ⟨b, off + j * 3 + 1, none⟩ = some (.bool f) ∧ (_ : World).cell? ⟨b, off + j * 3 + 2, none⟩ = some (.bool h)).2.2.2.2.1) | (refine Bx.call ?_ hb) | (refine Bx.drew ?_) | (refine Bx.alloc ?_ _) | (refine Bx.far2 ?_ (by first | (simp; done) | (simp; omega) | omega) (by first | (simp; done) | (simp; omega) | omega) _))))).cell (p := ⟨b, off + j * 3, none⟩) hbs).trans K0.out, ((Bx.bel (W := W) (g := q) (cs := #[.int .i64 s, .int .i64 g, .int .i64 o]) (by (repeat (first | assumption | (exact (by assumption : (_ : World).cell? ⟨q, 0, none⟩ = some (.int .i64 s) ∧ (_ : World).cell? ⟨q, 1, none⟩ = some (.int .i64 g) ∧ (_ : World).cell? ⟨q, 2, none⟩ = some (.int .i64 o) ∧ q < (_ : World).heap.size ∧ Bx W q #[.int .i64 s, .int .i64 g, .int .i64 o] (_ : World) ∧ (_ : World).cell? ⟨b, off + j * 3, none⟩ = some (.int .u32 l) ∧ (_ : World).cell? ⟨b, off + j * 3 + 1, none⟩ = some (.bool f) ∧ (_ : World).cell? ⟨b, off + j * 3 + 2, none⟩ = some (.bool h)).2.2.2.2.1) | (refine Bx.call ?_ hb) | (refine Bx.drew ?_) | (refine Bx.alloc ?_ _) | (refine Bx.far2 ?_ (by first | (simp; done) | (simp; omega) | omega) (by first | (simp; done) | (simp; omega) | omega) _))))).cell (p := ⟨b, off + j * 3 + 1, none⟩) hbs).trans K1.out, ((Bx.bel (W := W) (g := q) (cs := #[.int .i64 s, .int .i64 g, .int .i64 o]) (by (repeat (first | assumption | (exact (by assumption : (_ : World).cell? ⟨q, 0, none⟩ = some (.int .i64 s) ∧ (_ : World).cell? ⟨q, 1, none⟩ = some (.int .i64 g) ∧ (_ : World).cell? ⟨q, 2, none⟩ = some (.int .i64 o) ∧ q < (_ : World).heap.size ∧ Bx W q #[.int .i64 s, .int .i64 g, .int .i64 o] (_ : World) ∧ (_ : World).cell? ⟨b, off + j * 3, none⟩ = some (.int .u32 l) ∧ (_ : World).cell? ⟨b, off + j * 3 + 1, none⟩ = some (.bool f) ∧ (_ : World).cell? ⟨b, off + j * 3 + 2, none⟩ = some (.bool h)).2.2.2.2.1) | (refine Bx.call ?_ hb) | (refine Bx.drew ?_) | (refine Bx.alloc ?_ _) | (refine Bx.far2 ?_ (by first | (simp; done) | (simp; omega) | omega) (by first | (simp; done) | (simp; omega) | omega) _))))).cell (p := ⟨b, off + j * 3 + 2, none⟩) hbs).trans K2.out⟩))
          (first | (go_at_call 14; refine (HS.out _).mono ?_; rintro e w3 ⟨rfl, hb⟩; have Y0 : Bx W q #[.int .i64 s, .int .i64 g, .int .i64 o] w3 := (by (repeat (first | assumption | (exact (by assumption : (_ : World).cell? ⟨q, 0, none⟩ = some (.int .i64 s) ∧ (_ : World).cell? ⟨q, 1, none⟩ = some (.int .i64 g) ∧ (_ : World).cell? ⟨q, 2, none⟩ = some (.int .i64 o) ∧ q < (_ : World).heap.size ∧ Bx W q #[.int .i64 s, .int .i64 g, .int .i64 o] (_ : World) ∧ (_ : World).cell? ⟨b, off + j * 3, none⟩ = some (.int .u32 l) ∧ (_ : World).cell? ⟨b, off + j * 3 + 1, none⟩ = some (.bool f) ∧ (_ : World).cell? ⟨b, off + j * 3 + 2, none⟩ = some (.bool h)).2.2.2.2.1) | (refine Bx.call ?_ hb) | (refine Bx.drew ?_) | (refine Bx.alloc ?_ _) | (refine Bx.far2 ?_ (by first | (simp; done) | (simp; omega) | omega) (by first | (simp; done) | (simp; omega) | omega) _)))); have y0 := Y0.lt; (first | (have Z := (box_new _ _ _).drew.below hb; have z0 := Z.three.1; have z1 := Z.three.2.1; have z2 := Z.three.2.2.1; have zf := Z.three.2.2.2.1; have zl := Z.1) | (have Z := (box_new _ _ _).below hb; have z0 := Z.three.1; have z1 := Z.three.2.1; have z2 := Z.three.2.2.1; have zf := Z.three.2.2.2.1; have zl := Z.1) | skip)))
        all_goals go_wp2_with (fail)
        all_goals go_meet
        all_goals exact ⟨_, rfl, rfl, by omega, by omega, by (repeat (first | (with_reducible assumption) | (with_reducible refine Bx.drew ?_) | (with_reducible refine Bx.alloc ?_ _) | (with_reducible refine Bx.far2 ?_ (by first | (simp; done) | (simp; omega) | omega) (by first | (simp; done) | (simp; omega) | omega) _))), by (repeat (first | (with_reducible assumption) | (with_reducible exact box_new _ _ _) | ((with_reducible apply box_at); (first | (with_reducible rfl) | (simp <;> omega))) | (with_reducible apply Box.drew) | (with_reducible apply Box.drewN) | (with_reducible apply Box.near) | (with_reducible apply Box.alloc) | ((with_reducible apply box_far); (first | assumption | omega | (simp <;> omega))) | ((with_reducible apply Box.one_set); (with_reducible assumption)) | ((with_reducible apply Box.two_set); (with_reducible assumption)) | ((with_reducible apply Box.three_set); (with_reducible assumption)) | (with_reducible apply Box.set) | (simp only [List.size_toArray, List.length_cons, List.length_nil, Array.size_setIfInBounds] <;> omega)))⟩
      case rest =>
        clear X0 lq zw hw1 hNt hN
        obtain ⟨d, rfl, rfl, hd, hd2, X0, D⟩ := hcut
        have A := X0.bel
        have B := X0.box
        replace k0 := (A.cell (p := ⟨b, off + j * 3, none⟩) hbs).trans K0.out
        replace k1 := (A.cell (p := ⟨b, off + j * 3 + 1, none⟩) hbs).trans K1.out
        replace k2 := (A.cell (p := ⟨b, off + j * 3 + 2, none⟩) hbs).trans K2.out
        have hbq : b < wc.heap.size := Nat.lt_of_lt_of_le hbs A.size
        obtain ⟨lB, cB, fB⟩ := id B
        obtain ⟨lD, cD, fD⟩ := id D
        clear HS HI HL
        cases h
        · have p7 := H7.out rfl
          cases f
          · obtain ⟨rfl, rfl, rfl⟩ := H8.out rfl rfl
            clear H6 H7 H8 K0 K1 K2
            go_upto_region 9 with fail
            simp only [List.append_eq, List.cons_append, List.nil_append]
            go_wp2
            go_roundg (n - (j + 1))
            case rel => exact ⟨j + 1, _, _, _, by omega, rfl, by go_num, by omega, by omega, by omega, by omega, by (repeat (first | (with_reducible exact Below.refl _ _) | (with_reducible assumption) | (with_reducible refine Near.up _ ?_) | (with_reducible refine Below.drew ?_) | (with_reducible refine below_alloc_on ?_ _) | (with_reducible refine below_set_on ?_ (by first | (simp; done) | (simp; omega) | omega) _))), B.three_set _ _ _⟩
            case measure => omega
          · clear H6 H7 H8 K0 K1 K2
            go_upto_region 9 with fail
            simp only [List.append_eq, List.cons_append, List.nil_append]
            go_wp2
            go_roundg (n - (j + 1))
            case rel => exact ⟨j + 1, _, _, _, by omega, rfl, by go_num, by omega, by omega, by omega, by omega, by (repeat (first | (with_reducible exact Below.refl _ _) | (with_reducible assumption) | (with_reducible refine Near.up _ ?_) | (with_reducible refine Below.drew ?_) | (with_reducible refine below_alloc_on ?_ _) | (with_reducible refine below_set_on ?_ (by first | (simp; done) | (simp; omega) | omega) _))), B.three_set _ _ _⟩
            case measure => omega
        · obtain rfl := H6.out rfl
          clear H6 H7 H8 K0 K1 K2
          go_upto_region 9 with fail
          simp only [List.append_eq, List.cons_append, List.nil_append]
          go_wp2
          go_roundg (n - (j + 1))
          case rel => exact ⟨j + 1, _, _, _, by omega, rfl, by go_num, by omega, by omega, by omega, by omega, by (repeat (first | (with_reducible exact Below.refl _ _) | (with_reducible assumption) | (with_reducible refine Near.up _ ?_) | (with_reducible refine Below.drew ?_) | (with_reducible refine below_alloc_on ?_ _) | (with_reducible refine below_set_on ?_ (by first | (simp; done) | (simp; omega) | omega) _))), B.three_set _ _ _⟩
          case measure => omega
    · obtain rfl : j = n := by omega
      go_wp2_with (fail)
      refine (law30_awake _).mono ?_
      rintro e w3 ⟨rfl, hb⟩
      replace A : Below W.heap.size W w3 := by (refine below_call ?_ hb; (repeat (first | (with_reducible exact Below.refl _ _) | (with_reducible assumption) | (with_reducible refine Near.up _ ?_) | (with_reducible refine Below.drew ?_) | (with_reducible refine below_alloc_on ?_ _) | (with_reducible refine below_set_on ?_ (by first | (simp; done) | (simp; omega) | omega) _))))
      clear hb
      have z_w3 : W.heap.size ≤ w3.heap.size := A.size
      go_wp2
      all_goals go_ret
      all_goals exact ⟨rfl, A⟩

theorem walk (W : World) (a : Int) (wa : (Lit.int .u32 a).wf = true) (A : Option Addr) (n c : Nat) (rs : List (List Value)) (hi : Rows [.int .u32, .bool, .bool] W A n rs) (hc : n ≤ c) (hr : n * 8 ≤ 140737488351232) :
    Calls Try.prog 4 #[.int .u32 a, .slice A n c] W fun e W' => e = .returned (.bool true) ∧ Below W.heap.size W W' := by
  simp only [Lit.wf, IntKind.min, IntKind.max, IntKind.signed, IntKind.bits, Bool.and_eq_true] at wa
  simp at wa
  by_cases h : 100 < n
  · have t1 : decide (100 < (n : Int)) = true := decide_eq_true (by omega)
    clear hi
    go_enter Try.func4, Try.ntmps4
    go_wp2_with (fail)
    refine (law30_awake _).mono ?_
    rintro e w3 ⟨rfl, hb⟩
    go_wp2
    all_goals go_ret
    all_goals exact ⟨rfl, hb⟩
  · obtain ⟨L, F, S, hL, hT⟩ := deeds_of hi
    exact some_ W a (by omega) (by omega) A n c L F S hL hT hc (by omega)

set_option maxRecDepth 100000 in
theorem lifted (os : Os) (started : os.Started) (H : Type) (enc : TypeId × Value → H) :
    ReturnsInHanded {} Try.checked os 4 .any (Rows.controlShutsSpec.pre6 enc Try.prog Try.f4 Rows.controlShutsRow.domain false) (Rows.controlShutsSpec.post enc Try.prog Try.f4 false true false false) := by
  refine law_lift started (by kernel_rfl) Try.func4 rfl rfl ?_ (by kernel_rfl)
    (ChangeSpec.witness6 (enc := enc) (C := Try.checked) false ⟨#[], #[.int .u32 0, .slice none 0 0], []⟩ 8 (by kernel_rfl) (by kernel_rfl) (by kernel_rfl) (by kernel_rfl)) ?_
  · intro ds hl
    match ds, hl with
    | [_, _], _ => exact ⟨rfl, rfl, rfl⟩
  · intro W base args ds p hval hA hlt hwt
    rw [Try.params4] at hA hval hwt
    obtain ⟨v0, vs0, d0, ds0, p0, q0, hargs, rfl, rfl, h0, r0⟩ := trodAll_cons hA
    obtain ⟨v1, vs1, d1, ds1, p1, q1, rfl, rfl, rfl, h1, r1⟩ := trodAll_cons r0
    obtain ⟨rfl, rfl, rfl⟩ := trodAll_nil r1
    obtain rfl : args = #[v0, v1] := by cases args; simp_all
    obtain ⟨a0, rfl, rfl, rfl, w0⟩ := open_int Try.underlying32 (hval 0 32 v0 rfl rfl) h0
    have wt1 : ∀ n ∈ d1.weights Try.prog 33, n ≤ reachBytes := fun n hn => by
      have := List.all_eq_true.1 hwt n (DataW.weights_mem_each (j := 1) (t := 33) (d := d1) rfl rfl n hn)
      simpa using this
    have lt1 : ∀ x ∈ p1, x.block < W.heap.size := fun x hx => hlt x (by simp [hx])
    obtain ⟨A1, n1, c1, xs1, rfl, hi1, hc1, hr1⟩ := open_rows_arg 5 [.int .u32, .bool, .bool] Try.underlying33 (by kernel_rfl) (by kernel_rfl) (by decide) (by kernel_rfl) (hval 1 33 v1 rfl rfl) h1 lt1 wt1
    exact walk W a0 w0 A1 n1 c1 xs1 hi1 hc1 hr1

theorem over : Rows.controlShutsRow.holds Try.pinned (OpenSpec.ofChange Rows.controlShutsSpec) :=
  OpenClaim.holds_of_wide 4 Try.f4 rfl rfl rfl rfl rfl rfl rfl ⟨rfl, rfl, rfl, rfl, rfl⟩ rfl rfl rfl rfl rfl (by kernel_rfl) Try.func4 (by kernel_rfl)
    (of_decide_eq_true (by kernel_rfl)) (by unfold Func.isWrapper; first | (rw [if_pos (by decide +kernel)]; kernel_rfl) | (rw [if_neg (by decide +kernel)]; exact ⟨rfl, rfl⟩))
    (fun os started H enc _ => lifted os started H enc)

theorem proved : Rows.ControlShutsSaid := over
#print axioms proved
end Go.Proofs.Ytcofnffoaiiboaa.controlShuts
