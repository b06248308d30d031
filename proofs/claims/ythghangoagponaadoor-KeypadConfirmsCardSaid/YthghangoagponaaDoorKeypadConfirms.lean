/- KeypadConfirms holds of every pad that does not ask, and every list of keys: nothing begins, but by confirm, when start was the last key ahead of it, and with a programme that may be, that stood there then. No condition. -/
import Derived.Test.YthghangoagponaaDoorLaid
import Derived.Test.YthghangoagponaaDoorCards
import Derived.Test.YthghangoagponaaDoorTie
import Derived.Test.YthghangoagponaaDoorLaw42
import Derived.Test.YthghangoagponaaDoorLeaf
import Derived.Deep.CutBlock
import Derived.Deep.DeepCutAuto
import Derived.Deep.LoopGhost
namespace Go.Proofs.YthghangoagponaaDoor.keypadConfirms
open Go.ChangeShapes Go.WideShapes Go.ChangeAt Go.RowKit
set_option linter.unusedVariables false
set_option linter.unusedSimpArgs false
attribute [local go_sem] cell_set_ite Near.cell Near.frozen

theorem sets {W : World} (h : laidMetH Tryd.prog Rows.keypadConfirmsRow.laid W) : TabAt W 2 .i64 kySets :=
  tab_of (by kernel_rfl) (by kernel_rfl) Tryd.underlying75 Tryd.underlying3 (by kernel_rfl) (by kernel_rfl) (by decide) h
/-- What a deed holds. -/
def Deeds (w : World) (A : Option Addr) (n : Nat) (K M L : Nat → Int) : Prop :=
  0 < n → ∃ b off, A = some ⟨b, off, none⟩ ∧ b < w.heap.size ∧ ∀ i, i < n → w.cell? ⟨b, off + i * 3, none⟩ = some (.int .u8 (K i)) ∧ w.cell? ⟨b, off + i * 3 + 1, none⟩ = some (.int .u8 (M i)) ∧ w.cell? ⟨b, off + i * 3 + 2, none⟩ = some (.int .u16 (L i))
theorem deeds_of {w : World} {A : Option Addr} {n : Nat} {rs : List (List Value)} (h : Rows [.int .u8, .int .u8, .int .u16] w A n rs) :
    ∃ K M L : Nat → Int, Deeds w A n K M L ∧ ∀ i, i < n → 0 ≤ K i ∧ K i ≤ 255 ∧ 0 ≤ M i ∧ M i ≤ 255 ∧ 0 ≤ L i ∧ L i ≤ 65535 := by
  obtain ⟨hl, hk, hc⟩ := h
  have H : ∀ i, ∃ k m l : Int, i < n → ((rs.getD i []).getD 0 undef = .int .u8 k ∧ (rs.getD i []).getD 1 undef = .int .u8 m ∧ (rs.getD i []).getD 2 undef = .int .u16 l) ∧ 0 ≤ k ∧ k ≤ 255 ∧ 0 ≤ m ∧ m ≤ 255 ∧ 0 ≤ l ∧ l ≤ 65535 := by
    intro i
    by_cases hi : i < n
    · obtain ⟨_, h3⟩ := hk i hi
      obtain ⟨k, e0, w0⟩ : leafIs (.int .u8) ((rs.getD i []).getD 0 undef) := h3 0 _ rfl
      obtain ⟨m, e1, w1⟩ : leafIs (.int .u8) ((rs.getD i []).getD 1 undef) := h3 1 _ rfl
      obtain ⟨l, e2, w2⟩ : leafIs (.int .u16) ((rs.getD i []).getD 2 undef) := h3 2 _ rfl
      simp only [Lit.wf, IntKind.min, IntKind.max, IntKind.signed, IntKind.bits, Bool.and_eq_true] at w0 w1 w2
      simp at w0 w1 w2
      exact ⟨k, m, l, fun _ => ⟨⟨e0, e1, e2⟩, by omega, by omega, by omega, by omega, by omega, by omega⟩⟩
    · exact ⟨0, 0, 0, fun h => absurd h hi⟩
  refine ⟨fun i => Classical.choose (H i), fun i => Classical.choose (Classical.choose_spec (H i)), fun i => Classical.choose (Classical.choose_spec (Classical.choose_spec (H i))), fun hn => ?_, fun i hi => (Classical.choose_spec (Classical.choose_spec (Classical.choose_spec (H i))) hi).2⟩
  obtain ⟨b, off, rfl, hb, hcell⟩ := hc hn
  refine ⟨b, off, rfl, hb, fun i hi => ?_⟩
  obtain ⟨e0, e1, e2⟩ := (Classical.choose_spec (Classical.choose_spec (Classical.choose_spec (H i))) hi).1
  have c0 := hcell i hi 0 (by simp)
  have c1 := hcell i hi 1 (by simp)
  have c2 := hcell i hi 2 (by simp)
  rw [e0] at c0
  rw [e1] at c1
  rw [e2] at c2
  exact ⟨c0, c1, c2⟩
/-- What a key asks for, as far as the law looks. -/
theorem ways {k m l r v s : Int} {a : Bool} (k0 : 0 ≤ k) (k1 : k ≤ 12) : ∃ c, cfB m l r v s = c ∧ ∃ K R V S A2, wiK k (a && c) = K ∧ wiP k (a && c) r = R ∧ wiP k (a && c) v = V ∧ wiP k (a && c) s = S ∧ stA k a c = A2 ∧
    ((k = 5 ∧ a = true ∧ K = 1 ∧ R = r ∧ V = v ∧ S = s ∧ A2 = false ∧ l = 0 ∧ ckV r v s = 0) ∨ (k = 0 ∧ K = 0 ∧ R = 0 ∧ V = 0 ∧ S = 0 ∧ A2 = a) ∨ (k = 4 ∧ K = 0 ∧ R = 0 ∧ V = 0 ∧ S = 0) ∨ (k ≠ 0 ∧ k ≠ 4 ∧ K ≠ 1 ∧ R = 0 ∧ V = 0 ∧ S = 0 ∧ A2 = false)) := by
  refine ⟨_, rfl, _, _, _, _, _, rfl, rfl, rfl, rfl, rfl, ?_⟩
  rcases cf_ways m l r v s with ⟨_, _, _, e⟩ | ⟨_, _, e⟩ | ⟨_, _, _, e⟩ | ⟨_, hl, hc, e⟩
  all_goals rw [e]
  all_goals cases a
  all_goals rcases (by omega : k = 0 ∨ k = 4 ∨ k = 5 ∨ (k ≠ 0 ∧ k ≠ 4 ∧ k ≠ 5)) with rfl | rfl | rfl | ⟨h0, h4, h5⟩
  all_goals simp [wiK, wiP, stA, *]
  all_goals (try omega)

set_option maxRecDepth 100000 in
set_option maxHeartbeats 8000000 in
theorem some_ (W : World) (f r v s : Int) (A0 : Option Addr) (n c : Nat) (K M L : Nat → Int) (hd : Deeds W A0 n K M L) (hk : ∀ i, i < n → 0 ≤ K i ∧ K i ≤ 255 ∧ 0 ≤ M i ∧ M i ≤ 255 ∧ 0 ≤ L i ∧ L i ≤ 65535) (hn : n ≤ 60) (hT : TabAt W 2 .i64 kySets) :
    Calls Tryd.prog 9 #[.agg #[.int .i64 f, .int .i64 r, .int .i64 v, .int .i64 s, .bool false], .slice A0 n c] W fun e W' => e = .returned (.bool true) ∧ Below W.heap.size W W' := by
  have HD := Lib.hid hd
  have HK := Lib.hid hk
  have HT := Lib.hid hT
  have A : Below W.heap.size W W := Below.refl _ _
  have t0 : decide (60 < (n : Int)) = false := decide_eq_false (by omega)
  clear hd hk hT
  go_enter Tryd.func9, Tryd.ntmps9
  go_upto_region 5 with fail
  have P := box_new W #[.int .i64 f, .int .i64 r, .int .i64 v, .int .i64 s, .bool false] 41
  replace A := below_alloc_on A (.cells #[.int .i64 f, .int .i64 r, .int .i64 v, .int .i64 s, .bool false] 41)
  generalize W.alloc (.cells #[.int .i64 f, .int .i64 r, .int .i64 v, .int .i64 s, .bool false] 41) = w0 at *
  go_loopg [5, 21] n (fun q la i wr => ∃ (j : Nat) (f r v s last : Int) (a : Bool), j ≤ n ∧ q = n - j ∧ i = .int .i64 j ∧ la = .int .i64 last ∧ (a = true → last = 4) ∧ Below W.heap.size W wr ∧ Box wr W.heap.size #[.int .i64 f, .int .i64 r, .int .i64 v, .int .i64 s, .bool a])
  case atStart => exact ⟨0, f, r, v, s, 0, false, Nat.zero_le _, rfl, rfl, rfl, by simp, A, P⟩
  case round =>
    clear A P
    obtain ⟨j, f, r, v, s, last, a, hj, rfl, rfl, rfl, hla, A, P⟩ := hrel
    by_cases hlt : j < n
    · obtain ⟨b, off, rfl, hbs, hck⟩ := HD.out (show 0 < n by omega)
      obtain ⟨k0, k1, k2⟩ := hck j hlt
      obtain ⟨x0, x1, y0, y1, z0, z1⟩ := HK.out j hlt
      clear hck
      generalize K j = x at *
      generalize M j = y at *
      generalize L j = z at *
      obtain ⟨k, hkk⟩ : ∃ k, x % 13 = k := ⟨_, rfl⟩
      obtain ⟨m, hmm⟩ : ∃ m, y % 9 = m := ⟨_, rfl⟩
      have kk0 : 0 ≤ k := by omega
      have kk1 : k ≤ 12 := by omega
      have mm0 : 0 ≤ m := by omega
      have mm1 : m ≤ 8 := by omega
      have i1 : IntKind.i64.wrap k = k := IntWalk.i64_in _ (by omega)
      have i2 : IntKind.i64.wrap m = m := IntWalk.i64_in _ (by omega)
      have i3 : IntKind.i64.wrap z = z := IntWalk.i64_in _ (by omega)
      have c0 := (A.cell (p := ⟨b, off + j * 3, none⟩) hbs).trans k0
      have c1 := (A.cell (p := ⟨b, off + j * 3 + 1, none⟩) hbs).trans k1
      have c2 := (A.cell (p := ⟨b, off + j * 3 + 2, none⟩) hbs).trans k2
      have hbq : b < wr.heap.size := Nat.lt_of_lt_of_le hbs A.size
      have HS := fun w h => ky_step f r v s a k m z w h
      obtain ⟨cc, hc, G, R, V, S, A2, e1, e2, e3, e4, e5, hway⟩ := ways (k := k) (m := m) (l := z) (r := r) (v := v) (s := s) (a := a) kk0 kk1
      rw [hc, e1, e2, e3, e4, e5] at HS
      have HS := Lib.hid HS
      generalize tnF k f = f2 at *
      generalize tnR k f r = r2 at *
      generalize tnV k f v = v2 at *
      generalize tnS k f s = s2 at *
      clear hc e1 e2 e3 e4 e5 k0 k1 k2
      obtain ⟨lP, cP, fP⟩ := id P
      have zW : W.heap.size ≤ wr.heap.size := A.size
      have base : wr.heap.size ≤ wr.heap.size := Nat.le_refl _
      go_wp2_with (fail)
      refine (HS.out _ (HT.out.below (by (repeat (first | (with_reducible exact Below.refl _ _) | (with_reducible assumption) | (with_reducible refine Near.up _ ?_) | (with_reducible refine Below.drew ?_) | (with_reducible refine below_alloc_on ?_ _) | (with_reducible refine below_set_on ?_ (by first | (simp; done) | (simp; omega) | omega) _)))))).mono ?_
      rintro e w1 ⟨rfl, hb⟩
      replace A : Below W.heap.size W w1 := by (refine below_call ?_ hb; (repeat (first | (with_reducible exact Below.refl _ _) | (with_reducible assumption) | (with_reducible refine Near.up _ ?_) | (with_reducible refine Below.drew ?_) | (with_reducible refine below_alloc_on ?_ _) | (with_reducible refine below_set_on ?_ (by first | (simp; done) | (simp; omega) | omega) _))))
      replace P := Box.below (g := W.heap.size) (by (repeat (first | (with_reducible assumption) | (with_reducible exact box_new _ _ _) | ((with_reducible apply box_at); (first | (with_reducible rfl) | (simp <;> omega))) | (with_reducible apply Box.drew) | (with_reducible apply Box.drewN) | (with_reducible apply Box.near) | (with_reducible apply Box.alloc) | ((with_reducible apply box_far); (first | assumption | omega | (simp <;> omega))) | ((with_reducible apply Box.one_set); (with_reducible assumption)) | ((with_reducible apply Box.two_set); (with_reducible assumption)) | ((with_reducible apply Box.three_set); (with_reducible assumption)) | (with_reducible apply Box.set) | (simp only [List.size_toArray, List.length_cons, List.length_nil, Array.size_setIfInBounds] <;> omega)))) hb
      (try simp only [List.setIfInBounds_toArray, List.set_cons_zero, List.set_cons_succ] at P)
      (try clear cP fP)
      replace D := Box.below (g := wr.heap.size) (by (repeat (first | (with_reducible assumption) | (with_reducible exact box_new _ _ _) | ((with_reducible apply box_at); (first | (with_reducible rfl) | (simp <;> omega))) | (with_reducible apply Box.drew) | (with_reducible apply Box.drewN) | (with_reducible apply Box.near) | (with_reducible apply Box.alloc) | ((with_reducible apply box_far); (first | assumption | omega | (simp <;> omega))) | ((with_reducible apply Box.one_set); (with_reducible assumption)) | ((with_reducible apply Box.two_set); (with_reducible assumption)) | ((with_reducible apply Box.three_set); (with_reducible assumption)) | (with_reducible apply Box.set) | (simp only [List.size_toArray, List.length_cons, List.length_nil, Array.size_setIfInBounds] <;> omega)))) hb
      (try simp only [List.setIfInBounds_toArray, List.set_cons_zero, List.set_cons_succ] at D)
      (try clear cD fD)
      clear hb
      have z_w1 : W.heap.size ≤ w1.heap.size := A.size
      obtain ⟨lP_w1, cP, fP⟩ := id P
      obtain ⟨lD_w1, cD, fD⟩ := id D
      go_upto_region 10 with fail
      have A3 : Below W.heap.size W ((w1.alloc (.cells #[.int .i64 f2, .int .i64 r2, .int .i64 v2, .int .i64 s2, .bool A2] 41)).alloc (.cells #[.int .i64 G, .int .i64 R, .int .i64 V, .int .i64 S] 44)) := by (repeat (first | (with_reducible exact Below.refl _ _) | (with_reducible assumption) | (with_reducible refine Near.up _ ?_) | (with_reducible refine Below.drew ?_) | (with_reducible refine below_alloc_on ?_ _) | (with_reducible refine below_set_on ?_ (by first | (simp; done) | (simp; omega) | omega) _)))
      have P3 : Box ((w1.alloc (.cells #[.int .i64 f2, .int .i64 r2, .int .i64 v2, .int .i64 s2, .bool A2] 41)).alloc (.cells #[.int .i64 G, .int .i64 R, .int .i64 V, .int .i64 S] 44)) W.heap.size #[.int .i64 f, .int .i64 r, .int .i64 v, .int .i64 s, .bool a] := by (repeat (first | (with_reducible assumption) | (with_reducible exact box_new _ _ _) | ((with_reducible apply box_at); (first | (with_reducible rfl) | (simp <;> omega))) | (with_reducible apply Box.drew) | (with_reducible apply Box.drewN) | (with_reducible apply Box.near) | (with_reducible apply Box.alloc) | ((with_reducible apply box_far); (first | assumption | omega | (simp <;> omega))) | ((with_reducible apply Box.one_set); (with_reducible assumption)) | ((with_reducible apply Box.two_set); (with_reducible assumption)) | ((with_reducible apply Box.three_set); (with_reducible assumption)) | (with_reducible apply Box.set) | (simp only [List.size_toArray, List.length_cons, List.length_nil, Array.size_setIfInBounds] <;> omega)))
      have D3 : Box ((w1.alloc (.cells #[.int .i64 f2, .int .i64 r2, .int .i64 v2, .int .i64 s2, .bool A2] 41)).alloc (.cells #[.int .i64 G, .int .i64 R, .int .i64 V, .int .i64 S] 44)) wr.heap.size #[.int .u8 x, .int .u8 y, .int .u16 z] := by (repeat (first | (with_reducible assumption) | (with_reducible exact box_new _ _ _) | ((with_reducible apply box_at); (first | (with_reducible rfl) | (simp <;> omega))) | (with_reducible apply Box.drew) | (with_reducible apply Box.drewN) | (with_reducible apply Box.near) | (with_reducible apply Box.alloc) | ((with_reducible apply box_far); (first | assumption | omega | (simp <;> omega))) | ((with_reducible apply Box.one_set); (with_reducible assumption)) | ((with_reducible apply Box.two_set); (with_reducible assumption)) | ((with_reducible apply Box.three_set); (with_reducible assumption)) | (with_reducible apply Box.set) | (simp only [List.size_toArray, List.length_cons, List.length_nil, Array.size_setIfInBounds] <;> omega)))
      have Q3 : Box ((w1.alloc (.cells #[.int .i64 f2, .int .i64 r2, .int .i64 v2, .int .i64 s2, .bool A2] 41)).alloc (.cells #[.int .i64 G, .int .i64 R, .int .i64 V, .int .i64 S] 44)) w1.heap.size #[.int .i64 f2, .int .i64 r2, .int .i64 v2, .int .i64 s2, .bool A2] := by (repeat (first | (with_reducible assumption) | (with_reducible exact box_new _ _ _) | ((with_reducible apply box_at); (first | (with_reducible rfl) | (simp <;> omega))) | (with_reducible apply Box.drew) | (with_reducible apply Box.drewN) | (with_reducible apply Box.near) | (with_reducible apply Box.alloc) | ((with_reducible apply box_far); (first | assumption | omega | (simp <;> omega))) | ((with_reducible apply Box.one_set); (with_reducible assumption)) | ((with_reducible apply Box.two_set); (with_reducible assumption)) | ((with_reducible apply Box.three_set); (with_reducible assumption)) | (with_reducible apply Box.set) | (simp only [List.size_toArray, List.length_cons, List.length_nil, Array.size_setIfInBounds] <;> omega)))
      have X3 : Box ((w1.alloc (.cells #[.int .i64 f2, .int .i64 r2, .int .i64 v2, .int .i64 s2, .bool A2] 41)).alloc (.cells #[.int .i64 G, .int .i64 R, .int .i64 V, .int .i64 S] 44)) (w1.heap.size + 1) #[.int .i64 G, .int .i64 R, .int .i64 V, .int .i64 S] := by (repeat (first | (with_reducible assumption) | (with_reducible exact box_new _ _ _) | ((with_reducible apply box_at); (first | (with_reducible rfl) | (simp <;> omega))) | (with_reducible apply Box.drew) | (with_reducible apply Box.drewN) | (with_reducible apply Box.near) | (with_reducible apply Box.alloc) | ((with_reducible apply box_far); (first | assumption | omega | (simp <;> omega))) | ((with_reducible apply Box.one_set); (with_reducible assumption)) | ((with_reducible apply Box.two_set); (with_reducible assumption)) | ((with_reducible apply Box.three_set); (with_reducible assumption)) | (with_reducible apply Box.set) | (simp only [List.size_toArray, List.length_cons, List.length_nil, Array.size_setIfInBounds] <;> omega)))
      generalize (w1.alloc (.cells #[.int .i64 f2, .int .i64 r2, .int .i64 v2, .int .i64 s2, .bool A2] 41)).alloc (.cells #[.int .i64 G, .int .i64 R, .int .i64 V, .int .i64 S] 44) = w3 at *
      clear A P D c0 c1 c2 hbq cP fP cD fD lP base
      obtain ⟨lP, cP, fP⟩ := id P3
      obtain ⟨lD, cD, fD⟩ := id D3
      obtain ⟨lQ, cQ, fQ⟩ := id Q3
      obtain ⟨lX, cX, fX⟩ := id X3
      have HLA := Lib.hid hla
      rcases hway with ⟨rfl, rfl, rfl, rfl, rfl, rfl, rfl, rfl, hE⟩ | ⟨rfl, rfl, rfl, rfl, rfl, rfl⟩ | ⟨rfl, rfl, rfl, rfl, rfl⟩ | ⟨h0, h4, h1, rfl, rfl, rfl, rfl⟩
      · obtain rfl := hla rfl
        clear hla
        have HC := fun w => pr_check R V S w
        rw [hE] at HC
        have HC := Lib.hid HC
        have A := A3
        have P := P3
        have Q := Q3
        have X := X3
        have D := D3
        clear hE P3 Q3 X3 D3 A3
        go_wp2_with (fail)
        refine (HC.out _).mono ?_
        rintro e w5 ⟨rfl, hb⟩
        replace A : Below W.heap.size W w5 := by (refine below_call ?_ hb; (repeat (first | (with_reducible exact Below.refl _ _) | (with_reducible assumption) | (with_reducible refine Near.up _ ?_) | (with_reducible refine Below.drew ?_) | (with_reducible refine below_alloc_on ?_ _) | (with_reducible refine below_set_on ?_ (by first | (simp; done) | (simp; omega) | omega) _))))
        replace P := Box.below (g := W.heap.size) (by (repeat (first | (with_reducible assumption) | (with_reducible exact box_new _ _ _) | ((with_reducible apply box_at); (first | (with_reducible rfl) | (simp <;> omega))) | (with_reducible apply Box.drew) | (with_reducible apply Box.drewN) | (with_reducible apply Box.near) | (with_reducible apply Box.alloc) | ((with_reducible apply box_far); (first | assumption | omega | (simp <;> omega))) | ((with_reducible apply Box.one_set); (with_reducible assumption)) | ((with_reducible apply Box.two_set); (with_reducible assumption)) | ((with_reducible apply Box.three_set); (with_reducible assumption)) | (with_reducible apply Box.set) | (simp only [List.size_toArray, List.length_cons, List.length_nil, Array.size_setIfInBounds] <;> omega)))) hb
        (try simp only [List.setIfInBounds_toArray, List.set_cons_zero, List.set_cons_succ] at P)
        (try clear cP fP)
        replace D := Box.below (g := wr.heap.size) (by (repeat (first | (with_reducible assumption) | (with_reducible exact box_new _ _ _) | ((with_reducible apply box_at); (first | (with_reducible rfl) | (simp <;> omega))) | (with_reducible apply Box.drew) | (with_reducible apply Box.drewN) | (with_reducible apply Box.near) | (with_reducible apply Box.alloc) | ((with_reducible apply box_far); (first | assumption | omega | (simp <;> omega))) | ((with_reducible apply Box.one_set); (with_reducible assumption)) | ((with_reducible apply Box.two_set); (with_reducible assumption)) | ((with_reducible apply Box.three_set); (with_reducible assumption)) | (with_reducible apply Box.set) | (simp only [List.size_toArray, List.length_cons, List.length_nil, Array.size_setIfInBounds] <;> omega)))) hb
        (try simp only [List.setIfInBounds_toArray, List.set_cons_zero, List.set_cons_succ] at D)
        (try clear cD fD)
        replace Q := Box.below (g := w1.heap.size) (by (repeat (first | (with_reducible assumption) | (with_reducible exact box_new _ _ _) | ((with_reducible apply box_at); (first | (with_reducible rfl) | (simp <;> omega))) | (with_reducible apply Box.drew) | (with_reducible apply Box.drewN) | (with_reducible apply Box.near) | (with_reducible apply Box.alloc) | ((with_reducible apply box_far); (first | assumption | omega | (simp <;> omega))) | ((with_reducible apply Box.one_set); (with_reducible assumption)) | ((with_reducible apply Box.two_set); (with_reducible assumption)) | ((with_reducible apply Box.three_set); (with_reducible assumption)) | (with_reducible apply Box.set) | (simp only [List.size_toArray, List.length_cons, List.length_nil, Array.size_setIfInBounds] <;> omega)))) hb
        (try simp only [List.setIfInBounds_toArray, List.set_cons_zero, List.set_cons_succ] at Q)
        (try clear cQ fQ)
        replace X := Box.below (g := w1.heap.size + 1) (by (repeat (first | (with_reducible assumption) | (with_reducible exact box_new _ _ _) | ((with_reducible apply box_at); (first | (with_reducible rfl) | (simp <;> omega))) | (with_reducible apply Box.drew) | (with_reducible apply Box.drewN) | (with_reducible apply Box.near) | (with_reducible apply Box.alloc) | ((with_reducible apply box_far); (first | assumption | omega | (simp <;> omega))) | ((with_reducible apply Box.one_set); (with_reducible assumption)) | ((with_reducible apply Box.two_set); (with_reducible assumption)) | ((with_reducible apply Box.three_set); (with_reducible assumption)) | (with_reducible apply Box.set) | (simp only [List.size_toArray, List.length_cons, List.length_nil, Array.size_setIfInBounds] <;> omega)))) hb
        (try simp only [List.setIfInBounds_toArray, List.set_cons_zero, List.set_cons_succ] at X)
        (try clear cX fX)
        clear hb
        have z_w5 : W.heap.size ≤ w5.heap.size := A.size
        obtain ⟨lP_w5, cP, fP⟩ := id P
        obtain ⟨lD_w5, cD, fD⟩ := id D
        obtain ⟨lQ_w5, cQ, fQ⟩ := id Q
        obtain ⟨lX_w5, cX, fX⟩ := id X
        have P3 := P
        go_wp2
        go_roundg (n - (j + 1))
        case rel =>
          have P6 := ((((P3.set (i := 0) (by simp) (.int .i64 f2)).set (i := 1) (by simp) (.int .i64 r2)).set (i := 2) (by simp) (.int .i64 v2)).set (i := 3) (by simp) (.int .i64 s2)).set (i := 4) (by simp) (.bool false)
          exact ⟨j + 1, f2, r2, v2, s2, 5, false, by omega, rfl, by go_num, rfl, by simp, by (repeat (first | (with_reducible exact Below.refl _ _) | (with_reducible assumption) | (with_reducible refine Near.up _ ?_) | (with_reducible refine Below.drew ?_) | (with_reducible refine below_alloc_on ?_ _) | (with_reducible refine below_set_on ?_ (by first | (simp; done) | (simp; omega) | omega) _))), by simpa using P6⟩
        case measure => omega
      · clear hla
        cases A2
        all_goals go_wp2
        · go_roundg (n - (j + 1))
          case rel =>
            have P6 := ((((P3.set (i := 0) (by simp) (.int .i64 f2)).set (i := 1) (by simp) (.int .i64 r2)).set (i := 2) (by simp) (.int .i64 v2)).set (i := 3) (by simp) (.int .i64 s2)).set (i := 4) (by simp) (.bool false)
            exact ⟨j + 1, f2, r2, v2, s2, last, false, by omega, rfl, by go_num, rfl, fun h => (by first | exact HLA.out h | exact HLA.out trivial | cases h), by (repeat (first | (with_reducible exact Below.refl _ _) | (with_reducible assumption) | (with_reducible refine Near.up _ ?_) | (with_reducible refine Below.drew ?_) | (with_reducible refine below_alloc_on ?_ _) | (with_reducible refine below_set_on ?_ (by first | (simp; done) | (simp; omega) | omega) _))), by simpa using P6⟩
          case measure => omega
        · go_roundg (n - (j + 1))
          case rel =>
            have P6 := ((((P3.set (i := 0) (by simp) (.int .i64 f2)).set (i := 1) (by simp) (.int .i64 r2)).set (i := 2) (by simp) (.int .i64 v2)).set (i := 3) (by simp) (.int .i64 s2)).set (i := 4) (by simp) (.bool true)
            exact ⟨j + 1, f2, r2, v2, s2, last, true, by omega, rfl, by go_num, rfl, fun h => (by first | exact HLA.out h | exact HLA.out trivial | cases h), by (repeat (first | (with_reducible exact Below.refl _ _) | (with_reducible assumption) | (with_reducible refine Near.up _ ?_) | (with_reducible refine Below.drew ?_) | (with_reducible refine below_alloc_on ?_ _) | (with_reducible refine below_set_on ?_ (by first | (simp; done) | (simp; omega) | omega) _))), by simpa using P6⟩
          case measure => omega
      · clear hla
        cases A2
        all_goals go_wp2
        · go_roundg (n - (j + 1))
          case rel =>
            have P6 := ((((P3.set (i := 0) (by simp) (.int .i64 f2)).set (i := 1) (by simp) (.int .i64 r2)).set (i := 2) (by simp) (.int .i64 v2)).set (i := 3) (by simp) (.int .i64 s2)).set (i := 4) (by simp) (.bool false)
            exact ⟨j + 1, f2, r2, v2, s2, 4, false, by omega, rfl, by go_num, rfl, by simp, by (repeat (first | (with_reducible exact Below.refl _ _) | (with_reducible assumption) | (with_reducible refine Near.up _ ?_) | (with_reducible refine Below.drew ?_) | (with_reducible refine below_alloc_on ?_ _) | (with_reducible refine below_set_on ?_ (by first | (simp; done) | (simp; omega) | omega) _))), by simpa using P6⟩
          case measure => omega
        · go_roundg (n - (j + 1))
          case rel =>
            have P6 := ((((P3.set (i := 0) (by simp) (.int .i64 f2)).set (i := 1) (by simp) (.int .i64 r2)).set (i := 2) (by simp) (.int .i64 v2)).set (i := 3) (by simp) (.int .i64 s2)).set (i := 4) (by simp) (.bool true)
            exact ⟨j + 1, f2, r2, v2, s2, 4, true, by omega, rfl, by go_num, rfl, by simp, by (repeat (first | (with_reducible exact Below.refl _ _) | (with_reducible assumption) | (with_reducible refine Near.up _ ?_) | (with_reducible refine Below.drew ?_) | (with_reducible refine below_alloc_on ?_ _) | (with_reducible refine below_set_on ?_ (by first | (simp; done) | (simp; omega) | omega) _))), by simpa using P6⟩
          case measure => omega
      · clear hla
        have u0 : (k == 0) = false := by simpa using h0
        have u1 : (k != 0) = true := by simpa using h0
        have u2 : (G == 1) = false := by simpa using h1
        have u3 : (G != 1) = true := by simpa using h1
        go_wp2
        go_roundg (n - (j + 1))
        case rel =>
          have P6 := ((((P3.set (i := 0) (by simp) (.int .i64 f2)).set (i := 1) (by simp) (.int .i64 r2)).set (i := 2) (by simp) (.int .i64 v2)).set (i := 3) (by simp) (.int .i64 s2)).set (i := 4) (by simp) (.bool false)
          exact ⟨j + 1, f2, r2, v2, s2, k, false, by omega, rfl, by go_num, rfl, by simp, by (repeat (first | (with_reducible exact Below.refl _ _) | (with_reducible assumption) | (with_reducible refine Near.up _ ?_) | (with_reducible refine Below.drew ?_) | (with_reducible refine below_alloc_on ?_ _) | (with_reducible refine below_set_on ?_ (by first | (simp; done) | (simp; omega) | omega) _))), by simpa using P6⟩
        case measure => omega
    · obtain rfl : j = n := by omega
      go_wp2_with (fail)
      refine (law42_awake _ (HT.out.below (by (repeat (first | (with_reducible exact Below.refl _ _) | (with_reducible assumption) | (with_reducible refine Near.up _ ?_) | (with_reducible refine Below.drew ?_) | (with_reducible refine below_alloc_on ?_ _) | (with_reducible refine below_set_on ?_ (by first | (simp; done) | (simp; omega) | omega) _)))))).mono ?_
      rintro e w5 ⟨rfl, hb⟩
      replace A : Below W.heap.size W w5 := by (refine below_call ?_ hb; (repeat (first | (with_reducible exact Below.refl _ _) | (with_reducible assumption) | (with_reducible refine Near.up _ ?_) | (with_reducible refine Below.drew ?_) | (with_reducible refine below_alloc_on ?_ _) | (with_reducible refine below_set_on ?_ (by first | (simp; done) | (simp; omega) | omega) _))))
      clear hb
      have z_w5 : W.heap.size ≤ w5.heap.size := A.size
      go_wp2
      all_goals go_ret
      all_goals exact ⟨rfl, A⟩
theorem walk (W : World) (f : Int) (wf : (Lit.int .i64 f).wf = true) (r : Int) (wr : (Lit.int .i64 r).wf = true) (v : Int) (wv : (Lit.int .i64 v).wf = true) (s : Int) (ws : (Lit.int .i64 s).wf = true) (a : Bool) (A0 : Option Addr) (n c : Nat) (rs : List (List Value)) (hi : Rows [.int .u8, .int .u8, .int .u16] W A0 n rs) (hc : n ≤ c) (hr : n * 4 ≤ 140737488351232) (hL : laidMetH Tryd.prog Rows.keypadConfirmsRow.laid W) :
    Calls Tryd.prog 9 #[.agg #[.int .i64 f, .int .i64 r, .int .i64 v, .int .i64 s, .bool a], .slice A0 n c] W fun e W' => e = .returned (.bool true) ∧ Below W.heap.size W W' := by
  have hT := sets hL
  have HT := Lib.hid hT
  have A : Below W.heap.size W W := Below.refl _ _
  clear hL wf wr wv ws
  by_cases h : 60 < n
  · have t1 : decide (60 < (n : Int)) = true := decide_eq_true (by omega)
    clear hi hT
    go_enter Tryd.func9, Tryd.ntmps9
    go_wp2_with (fail)
    refine (law42_awake _ (HT.out.below (by (repeat (first | (with_reducible exact Below.refl _ _) | (with_reducible assumption) | (with_reducible refine Near.up _ ?_) | (with_reducible refine Below.drew ?_) | (with_reducible refine below_alloc_on ?_ _) | (with_reducible refine below_set_on ?_ (by first | (simp; done) | (simp; omega) | omega) _)))))).mono ?_
    rintro e w5 ⟨rfl, hb⟩
    replace A : Below W.heap.size W w5 := by (refine below_call ?_ hb; (repeat (first | (with_reducible exact Below.refl _ _) | (with_reducible assumption) | (with_reducible refine Near.up _ ?_) | (with_reducible refine Below.drew ?_) | (with_reducible refine below_alloc_on ?_ _) | (with_reducible refine below_set_on ?_ (by first | (simp; done) | (simp; omega) | omega) _))))
    clear hb
    have z_w5 : W.heap.size ≤ w5.heap.size := A.size
    go_wp2
    all_goals go_ret
    all_goals exact ⟨rfl, A⟩
  · cases a
    · obtain ⟨K, M, L, hd, hk⟩ := deeds_of hi
      exact some_ W f r v s A0 n c K M L hd hk (by omega) hT
    · have t1 : decide (60 < (n : Int)) = false := decide_eq_false (by omega)
      clear hi hT
      go_enter Tryd.func9, Tryd.ntmps9
      go_wp2_with (fail)
      refine (law42_awake _ (HT.out.below (by (repeat (first | (with_reducible exact Below.refl _ _) | (with_reducible assumption) | (with_reducible refine Near.up _ ?_) | (with_reducible refine Below.drew ?_) | (with_reducible refine below_alloc_on ?_ _) | (with_reducible refine below_set_on ?_ (by first | (simp; done) | (simp; omega) | omega) _)))))).mono ?_
      rintro e w5 ⟨rfl, hb⟩
      replace A : Below W.heap.size W w5 := by (refine below_call ?_ hb; (repeat (first | (with_reducible exact Below.refl _ _) | (with_reducible assumption) | (with_reducible refine Near.up _ ?_) | (with_reducible refine Below.drew ?_) | (with_reducible refine below_alloc_on ?_ _) | (with_reducible refine below_set_on ?_ (by first | (simp; done) | (simp; omega) | omega) _))))
      clear hb
      have z_w5 : W.heap.size ≤ w5.heap.size := A.size
      go_wp2
      all_goals go_ret
      all_goals exact ⟨rfl, A⟩

theorem door_met (os : Os) (args : Array Value) : laidMetH Tryd.prog Rows.keypadConfirmsRow.laid ((World.doorLaid Tryd.prog 39 os).forCall (fun _ _ => 0) ⟨#[], args, []⟩).memory :=
  laidMetH_of_parts3 (fuel := 8) (laidMet_of_run' 8 (by kernel_rfl) (by kernel_rfl)) (by kernel_rfl) (by kernel_rfl)
set_option maxRecDepth 100000 in
theorem lifted (os : Os) (started : os.Started) (H : Type) (enc : TypeId × Value → H) :
    ReturnsInHanded {} Tryd.checked os 9 .any (fun w args => (Rows.keypadConfirmsSpec.pre enc Tryd.prog Tryd.f9 [] false w args ∧ laidMetH Tryd.prog Rows.keypadConfirmsRow.laid w) ∧ sizedMet enc Tryd.prog Tryd.f9 (OpenSpec.ofChange Rows.keypadConfirmsSpec) false w args) (Rows.keypadConfirmsSpec.post enc Tryd.prog Tryd.f9 false true false false) := by
  refine law_lift_laid (laid := Rows.keypadConfirmsRow.laid) started (by kernel_rfl) Tryd.func9 rfl rfl ?_ (by kernel_rfl)
    (ChangeSpec.witness_shaped (enc := enc) (C := Tryd.checked) (os := os) (X := fun w _ => laidMetH Tryd.prog Rows.keypadConfirmsRow.laid w) false (World.doorLaid Tryd.prog 39 os) #[.agg #[.int .i64 0, .int .i64 0, .int .i64 0, .int .i64 0, .bool false], .slice none 0 0] 8 rfl (World.shaped_of_RefB (by kernel_rfl) (by kernel_rfl)) (by kernel_rfl) (by kernel_rfl) (by kernel_rfl) (door_met os _)) ?_
  · intro ds hl
    match ds, hl with
    | [_, _], _ => exact ⟨rfl, rfl, rfl⟩
  · intro W base args ds p hval hA hlt hwt hL
    rw [Tryd.params9] at hA hval hwt
    obtain ⟨v0, vs0, d0, ds0, p0, q0, hargs, rfl, rfl, h0, r0⟩ := trodAll_cons hA
    obtain ⟨v1, vs1, d1, ds1, p1, q1, rfl, rfl, rfl, h1, r1⟩ := trodAll_cons r0
    obtain ⟨rfl, rfl, rfl⟩ := trodAll_nil r1
    obtain rfl : args = #[v0, v1] := by cases args; simp_all
    obtain ⟨cs0, rfl, l0, k0⟩ := open_leaves 5 [.int .i64, .int .i64, .int .i64, .int .i64, .bool] (by kernel_rfl) (by kernel_rfl) (hval 0 41 v0 rfl rfl) h0
    match cs0, l0, k0 with
    | [y0_0, y0_1, y0_2, y0_3, y0_4], _, k0 =>
    obtain ⟨x0_0, e0_0, w0_0⟩ : leafIs (.int .i64) y0_0 := k0 0 _ rfl
    subst e0_0
    obtain ⟨x0_1, e0_1, w0_1⟩ : leafIs (.int .i64) y0_1 := k0 1 _ rfl
    subst e0_1
    obtain ⟨x0_2, e0_2, w0_2⟩ : leafIs (.int .i64) y0_2 := k0 2 _ rfl
    subst e0_2
    obtain ⟨x0_3, e0_3, w0_3⟩ : leafIs (.int .i64) y0_3 := k0 3 _ rfl
    subst e0_3
    obtain ⟨x0_4, e0_4⟩ : leafIs (.bool) y0_4 := k0 4 _ rfl
    subst e0_4
    have wt1 : ∀ n ∈ d1.weights Tryd.prog 49, n ≤ reachBytes := fun n hn => by
      have := List.all_eq_true.1 hwt n (DataW.weights_mem_each (j := 1) (t := 49) (d := d1) rfl rfl n hn)
      simpa using this
    have lt1 : ∀ x ∈ p1, x.block < W.heap.size := fun x hx => hlt x (by simp [hx])
    obtain ⟨A1, n1, c1, xs1, rfl, hi1, hc1, hr1⟩ := open_rows_arg 5 [.int .u8, .int .u8, .int .u16] Tryd.underlying49 (by kernel_rfl) (by kernel_rfl) (by decide) (by kernel_rfl) (hval 1 49 v1 rfl rfl) h1 lt1 wt1
    exact walk W x0_0 w0_0 x0_1 w0_1 x0_2 w0_2 x0_3 w0_3 x0_4 A1 n1 c1 xs1 hi1 hc1 hr1 hL

theorem over : Rows.keypadConfirmsRow.holds Tryd.pinned (OpenSpec.ofChange Rows.keypadConfirmsSpec) :=
  OpenClaim.holds_of_wide 9 Tryd.f9 rfl rfl rfl rfl rfl rfl rfl ⟨rfl, rfl, rfl, rfl, rfl⟩ rfl rfl rfl rfl rfl (by kernel_rfl) Tryd.func9 (by kernel_rfl)
    (of_decide_eq_true (by kernel_rfl)) (by unfold Func.isWrapper; first | (rw [if_pos (by decide +kernel)]; kernel_rfl) | (rw [if_neg (by decide +kernel)]; exact ⟨rfl, rfl⟩))
    (fun os started H enc _ => lifted os started H enc)

theorem plain (f : FuncId) (fn : Func) (hf : Tryd.pinned.checked.prog.funcNamed "pinchcock/pinchcocklaw42.KeypadConfirms" = some f) (hfn : Tryd.pinned.checked.prog.funcs[f]? = some fn) :
    false = Tryd.pinned.checked.prog.looks [] ∧ ∀ (j : Nat) t, fn.params[j]? = some t → Tryd.pinned.checked.prog.wantsStandIn t = false := by
  obtain rfl : f = 9 := Option.some.inj ((show Tryd.prog.funcNamed "pinchcock/pinchcocklaw42.KeypadConfirms" = some 9 by kernel_rfl).symm.trans hf) |>.symm
  obtain rfl : fn = Tryd.f9 := (Option.some.inj (Tryd.func9.symm.trans hfn)).symm
  refine ⟨by kernel_rfl, fun j t ht => ?_⟩
  rw [Tryd.params9] at ht
  have hm : t ∈ [41, 49] := by simpa using Array.mem_of_getElem? ht
  have hall : ([41, 49].all fun u => !Tryd.prog.wantsStandIn u) = true := by kernel_rfl
  exact (show Tryd.prog.wantsStandIn t = false by simpa using List.all_eq_true.1 hall t hm)
theorem proved : Rows.KeypadConfirmsCardSaid :=
  Claim7.holds_tied_plain_at .later [] _ _ _ _ over (fun _ h => by cases h) (by kernel_rfl) (fun _ h => by cases h) keypadConfirms_row_tie rfl ⟨rfl, rfl⟩ (by kernel_rfl) rfl plain (by kernel_rfl)
#print axioms proved
end Go.Proofs.YthghangoagponaaDoor.keypadConfirms
