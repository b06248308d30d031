/- ReviveFinds where there is something to write, into slot 1 first. -/
import Derived.Test.YthibaehiponfnaaFindsNE
import Derived.Deep.DeepCutAuto
import Derived.Deep.CutBlock
import Derived.Deep.LoopGhost
import Derived.Deep.RegionHeld3
import Derived.Test.YthibaehiponfnaaBx
namespace Go.Proofs.Ythibaehiponfnaa.reviveFinds
open Go.ChangeShapes Go.WideShapes Go.ChangeAt Go.RowKit
set_option linter.unusedVariables false
set_option linter.unusedSimpArgs false
set_option maxRecDepth 100000
attribute [local go_sem] cell_set_ite Near.cell Near.frozen fld_boot2 fld_boot3 fld_boot4
attribute [local go_sem ↓ high] eq_entry'
attribute [local go_sem ↓] Go.wp_at_zero Go.wp_at_succ

set_option maxHeartbeats 40000000 in
theorem main1 (e0 e1 e2 e3 e4 e5 e6 e7 d0 d1 d2 d3 d4 d5 d6 d7 h0 h1 h2 : Int) (T : ByteArray) (W : World) (S D : ByteArray) (is : Bool) (t0 t1 t2 t3 t4 t5 t6 t7 am ar av ak : Int) (ht : decide (64 < (T.size : Int)) = false) (b0 : 1 ≤ e0) (b1 : e0 ≤ 4294967295) (hk : h0 % 2 = 1) (y0 : 0 ≤ h0) (y1 : h0 ≤ 255) (y2 : 0 ≤ h1) (y3 : h1 ≤ 255) (y4 : 0 ≤ h2) (y5 : h2 ≤ 255) (hS : Hid (S.size = 21)) (hD : Hid (D.size = 21)) (HR1 : Hid (∀ w, Calls Try.prog 4 #[.agg #[.int .i64 e0, .int .i64 e1, .int .i64 e2, .int .i64 e3, .int .i64 e4, .int .i64 e5, .int .i64 e6, .int .i64 e7]] w fun e w' => e = .returned (.bool true) ∧ Below w.heap.size w w')) (HR2 : Hid (∀ w, Calls Try.prog 4 #[.agg #[.int .i64 (e0 + 1), .int .i64 d1, .int .i64 d2, .int .i64 d3, .int .i64 d4, .int .i64 d5, .int .i64 d6, .int .i64 d7]] w fun e w' => e = .returned (.bool true) ∧ Below w.heap.size w w')) (HN1 : Hid (∀ w, Calls Try.prog 6 #[.agg #[.string ⟨#[]⟩, .string ⟨#[]⟩, .bool false, .int .i64 0, .string ⟨#[]⟩, .int .i64 0], .int .i64 0, .agg #[.int .i64 e0, .int .i64 e1, .int .i64 e2, .int .i64 e3, .int .i64 e4, .int .i64 e5, .int .i64 e6, .int .i64 e7]] w fun e w' => e = .returned (.tuple #[.agg #[.string ⟨#[]⟩, .string ⟨#[]⟩, .bool true, .int .i64 1, .string S, .int .i64 0], .int .i64 0]) ∧ Below w.heap.size w w')) (HN2 : Hid (∀ w, Calls Try.prog 6 #[.agg #[.string ⟨#[]⟩, .string S, .bool false, .int .i64 1, .string ⟨#[]⟩, .int .i64 0], .int .i64 1, .agg #[.int .i64 (e0 + 1), .int .i64 d1, .int .i64 d2, .int .i64 d3, .int .i64 d4, .int .i64 d5, .int .i64 d6, .int .i64 d7]] w fun e w' => e = .returned (.tuple #[.agg #[.string ⟨#[]⟩, .string S, .bool true, .int .i64 0, .string D, .int .i64 0], .int .i64 0]) ∧ Below w.heap.size w w')) (HB1 : Hid (∀ w, Calls Try.prog 8 #[.agg #[.string ⟨#[]⟩, .string S, .bool false, .int .i64 1, .string ⟨#[]⟩, .int .i64 0]] w fun e w' => e = .returned (.agg #[.int .i64 am, .int .i64 ar, .int .i64 av, .int .i64 ak, .int .i64 e5, .int .i64 e6, .int .i64 e7, .int .i64 e0, .int .i64 1, .bool false]) ∧ Below w.heap.size w w')) (HG : Hid (∀ w, Calls Try.prog 9 #[.string T] w fun e w' => e = .returned (.tuple #[.agg #[.int .i64 t0, .int .i64 t1, .int .i64 t2, .int .i64 t3, .int .i64 t4, .int .i64 t5, .int .i64 t6, .int .i64 t7], .bool is]) ∧ Below w.heap.size w w')) (HLast : Hid (∀ X : ByteArray, gtB X = false → X.size ≤ 64 → ∃ m0 p0 p1 p2, ∀ w, Calls Try.prog 8 #[.agg #[.string X, .string S, .bool false, .int .i64 0, .string ⟨#[]⟩, .int .i64 0]] w fun e w' => e = .returned (.agg #[.int .i64 m0, .int .i64 p0, .int .i64 p1, .int .i64 p2, .int .i64 e5, .int .i64 e6, .int .i64 e7, .int .i64 e0, .int .i64 1, .bool false]) ∧ Below w.heap.size w w')) (HNext : Hid (∀ X : ByteArray, gtB X = true → gtV X 0 = e0 + 1 → gtV X 5 = d5 → gtV X 6 = d6 → gtV X 7 = d7 → X.size ≤ 64 → ∃ m0 p0 p1 p2, ∀ w, Calls Try.prog 8 #[.agg #[.string X, .string S, .bool false, .int .i64 0, .string ⟨#[]⟩, .int .i64 0]] w fun e w' => e = .returned (.agg #[.int .i64 m0, .int .i64 p0, .int .i64 p1, .int .i64 p2, .int .i64 d5, .int .i64 d6, .int .i64 d7, .int .i64 (e0 + 1), .int .i64 0, .bool false]) ∧ Below w.heap.size w w')) (HDg : Hid (gtB D = true ∧ gtV D 0 = e0 + 1 ∧ gtV D 5 = d5 ∧ gtV D 6 = d6 ∧ gtV D 7 = d7)) (HTs : Hid (T.size ≤ 64)) (HT : Hid ((is = false ∧ gtB T = false) ∨ (is = true ∧ entB t0 t1 t2 t3 t4 t5 t6 t7 (e0 + 1) d1 d2 d3 d4 d5 d6 d7 = true ∧ gtB T = true ∧ gtV T 0 = e0 + 1 ∧ gtV T 5 = d5 ∧ gtV T 6 = d6 ∧ gtV T 7 = d7) ∨ (is = true ∧ entB t0 t1 t2 t3 t4 t5 t6 t7 (e0 + 1) d1 d2 d3 d4 d5 d6 d7 = false))) :
    Calls Try.prog 3 #[.agg #[.int .i64 e0, .int .i64 e1, .int .i64 e2, .int .i64 e3, .int .i64 e4, .int .i64 e5, .int .i64 e6, .int .i64 e7, .int .i64 d0, .int .i64 d1, .int .i64 d2, .int .i64 d3, .int .i64 d4, .int .i64 d5, .int .i64 d6, .int .i64 d7], .agg #[.int .u8 h0, .int .u8 h1, .int .u8 h2], .string T] W fun e W' => e = .returned (.bool true) ∧ Below W.heap.size W W' := by
  have A : Below W.heap.size W W := Below.refl _ _
  go_enter Try.func3, Try.ntmps3
  go_upto_region 1 with (fail)
  refine at_world (fun V => Below W.heap.size W V ∧ Box V (W.heap.size) #[.int .i64 e0, .int .i64 e1, .int .i64 e2, .int .i64 e3, .int .i64 e4, .int .i64 e5, .int .i64 e6, .int .i64 e7, .int .i64 d0, .int .i64 d1, .int .i64 d2, .int .i64 d3, .int .i64 d4, .int .i64 d5, .int .i64 d6, .int .i64 d7] ∧ Box V (W.heap.size + 1) #[.int .u8 h0, .int .u8 h1, .int .u8 h2]) ⟨by (repeat (first | (with_reducible exact Below.refl _ _) | (with_reducible assumption) | (with_reducible refine Near.up _ ?_) | (with_reducible refine Below.drew ?_) | (with_reducible refine below_alloc_on ?_ _) | (with_reducible refine below_set_on ?_ (by first | (simp; done) | (simp; omega) | omega) _))), by (repeat (first | (with_reducible assumption) | (with_reducible exact box_new _ _ _) | ((with_reducible apply box_at); (first | (with_reducible rfl) | (simp <;> omega))) | (with_reducible apply Box.drew) | (with_reducible apply Box.drewN) | (with_reducible apply Box.near) | (with_reducible apply Box.alloc) | ((with_reducible apply box_far); (first | assumption | omega | (simp <;> omega))) | ((with_reducible apply Box.one_set); (with_reducible assumption)) | ((with_reducible apply Box.two_set); (with_reducible assumption)) | ((with_reducible apply Box.three_set); (with_reducible assumption)) | (with_reducible apply Box.set) | (simp only [List.size_toArray, List.length_cons, List.length_nil, Array.size_setIfInBounds] <;> omega))), by (repeat (first | (with_reducible assumption) | (with_reducible exact box_new _ _ _) | ((with_reducible apply box_at); (first | (with_reducible rfl) | (simp <;> omega))) | (with_reducible apply Box.drew) | (with_reducible apply Box.drewN) | (with_reducible apply Box.near) | (with_reducible apply Box.alloc) | ((with_reducible apply box_far); (first | assumption | omega | (simp <;> omega))) | ((with_reducible apply Box.one_set); (with_reducible assumption)) | ((with_reducible apply Box.two_set); (with_reducible assumption)) | ((with_reducible apply Box.three_set); (with_reducible assumption)) | (with_reducible apply Box.set) | (simp only [List.size_toArray, List.length_cons, List.length_nil, Array.size_setIfInBounds] <;> omega)))⟩ ?_
  clear A
  rintro w1 ⟨A, X_pb, X_ph⟩
  have n_pb_ph : ¬ W.heap.size = W.heap.size + 1 := by omega
  obtain ⟨ph, h_ph⟩ : ∃ ph, W.heap.size + 1 = ph := ⟨_, rfl⟩
  have o_ph : W.heap.size ≤ ph := by omega
  rw [h_ph] at X_ph n_pb_ph
  simp only [h_ph]
  clear h_ph
  obtain ⟨pb, h_pb⟩ : ∃ pb, W.heap.size = pb := ⟨_, rfl⟩
  have o_pb : W.heap.size ≤ pb := by omega
  rw [h_pb] at X_pb n_pb_ph
  simp only [h_pb]
  clear h_pb
  have n_ph_pb : ¬ ph = pb := fun h => n_pb_ph h.symm
  go_cut [7, 8] (fun p q wx => ∃ pe pd, p = .pointer (some ⟨pe, 0, none⟩) ∧ q = .pointer (some ⟨pd, 0, none⟩) ∧ W.heap.size ≤ pe ∧ W.heap.size ≤ pd ∧ ¬ pe = pd ∧ ¬ pe = pb ∧ ¬ pd = pb ∧ ¬ pe = ph ∧ ¬ pd = ph ∧ Below W.heap.size W wx ∧ Box wx ph #[.int .u8 h0, .int .u8 h1, .int .u8 h2] ∧ Box wx pe #[.int .i64 e0, .int .i64 e1, .int .i64 e2, .int .i64 e3, .int .i64 e4, .int .i64 e5, .int .i64 e6, .int .i64 e7] ∧ Box wx pd #[.int .i64 d0, .int .i64 d1, .int .i64 d2, .int .i64 d3, .int .i64 d4, .int .i64 d5, .int .i64 d6, .int .i64 d7])
  case first =>
  
    have s_pb := X_pb.1
    have s_ph := X_ph.1
    have z_1 := A.size
    have X0 : Bx W pb #[.int .i64 e0, .int .i64 e1, .int .i64 e2, .int .i64 e3, .int .i64 e4, .int .i64 e5, .int .i64 e6, .int .i64 e7, .int .i64 d0, .int .i64 d1, .int .i64 d2, .int .i64 d3, .int .i64 d4, .int .i64 d5, .int .i64 d6, .int .i64 d7] w1 := ⟨X_pb, A, o_pb⟩
    have X1 : Bx W ph #[.int .u8 h0, .int .u8 h1, .int .u8 h2] w1 := ⟨X_ph, A, o_ph⟩
    go_region_held3 (fun w' => (∀ i, w'.cell? ⟨pb, i, none⟩ = (#[.int .i64 e0, .int .i64 e1, .int .i64 e2, .int .i64 e3, .int .i64 e4, .int .i64 e5, .int .i64 e6, .int .i64 e7, .int .i64 d0, .int .i64 d1, .int .i64 d2, .int .i64 d3, .int .i64 d4, .int .i64 d5, .int .i64 d6, .int .i64 d7] : Array Value)[i]?) ∧ pb < w'.heap.size ∧ Bx W pb #[.int .i64 e0, .int .i64 e1, .int .i64 e2, .int .i64 e3, .int .i64 e4, .int .i64 e5, .int .i64 e6, .int .i64 e7, .int .i64 d0, .int .i64 d1, .int .i64 d2, .int .i64 d3, .int .i64 d4, .int .i64 d5, .int .i64 d6, .int .i64 d7] w' ∧ (∀ i, w'.cell? ⟨ph, i, none⟩ = (#[.int .u8 h0, .int .u8 h1, .int .u8 h2] : Array Value)[i]?) ∧ ph < w'.heap.size ∧ Bx W ph #[.int .u8 h0, .int .u8 h1, .int .u8 h2] w')
      ((exact ⟨(Bx.box (W := W) (g := pb) (cs := #[.int .i64 e0, .int .i64 e1, .int .i64 e2, .int .i64 e3, .int .i64 e4, .int .i64 e5, .int .i64 e6, .int .i64 e7, .int .i64 d0, .int .i64 d1, .int .i64 d2, .int .i64 d3, .int .i64 d4, .int .i64 d5, .int .i64 d6, .int .i64 d7]) (by (repeat (first | (with_reducible assumption) | (exact (by with_reducible assumption : (∀ i, (_ : World).cell? ⟨pb, i, none⟩ = (#[.int .i64 e0, .int .i64 e1, .int .i64 e2, .int .i64 e3, .int .i64 e4, .int .i64 e5, .int .i64 e6, .int .i64 e7, .int .i64 d0, .int .i64 d1, .int .i64 d2, .int .i64 d3, .int .i64 d4, .int .i64 d5, .int .i64 d6, .int .i64 d7] : Array Value)[i]?) ∧ pb < (_ : World).heap.size ∧ Bx W pb #[.int .i64 e0, .int .i64 e1, .int .i64 e2, .int .i64 e3, .int .i64 e4, .int .i64 e5, .int .i64 e6, .int .i64 e7, .int .i64 d0, .int .i64 d1, .int .i64 d2, .int .i64 d3, .int .i64 d4, .int .i64 d5, .int .i64 d6, .int .i64 d7] (_ : World) ∧ (∀ i, (_ : World).cell? ⟨ph, i, none⟩ = (#[.int .u8 h0, .int .u8 h1, .int .u8 h2] : Array Value)[i]?) ∧ ph < (_ : World).heap.size ∧ Bx W ph #[.int .u8 h0, .int .u8 h1, .int .u8 h2] (_ : World)).2.2.1) | (exact (by with_reducible assumption : (∀ i, (_ : World).cell? ⟨pb, i, none⟩ = (#[.int .i64 e0, .int .i64 e1, .int .i64 e2, .int .i64 e3, .int .i64 e4, .int .i64 e5, .int .i64 e6, .int .i64 e7, .int .i64 d0, .int .i64 d1, .int .i64 d2, .int .i64 d3, .int .i64 d4, .int .i64 d5, .int .i64 d6, .int .i64 d7] : Array Value)[i]?) ∧ pb < (_ : World).heap.size ∧ Bx W pb #[.int .i64 e0, .int .i64 e1, .int .i64 e2, .int .i64 e3, .int .i64 e4, .int .i64 e5, .int .i64 e6, .int .i64 e7, .int .i64 d0, .int .i64 d1, .int .i64 d2, .int .i64 d3, .int .i64 d4, .int .i64 d5, .int .i64 d6, .int .i64 d7] (_ : World) ∧ (∀ i, (_ : World).cell? ⟨ph, i, none⟩ = (#[.int .u8 h0, .int .u8 h1, .int .u8 h2] : Array Value)[i]?) ∧ ph < (_ : World).heap.size ∧ Bx W ph #[.int .u8 h0, .int .u8 h1, .int .u8 h2] (_ : World)).2.2.2.2.2) | (with_reducible refine Bx.call ?_ hb) | (with_reducible refine Bx.drew ?_) | (with_reducible refine Bx.alloc ?_ _) | (with_reducible refine Bx.far2 ?_ (by first | (dsimp only; omega) | omega | (simp; done) | (simp; omega) | omega) (by first | (dsimp only; omega) | omega | (simp; done) | (simp; omega) | omega) _))))).2.1, Bx.lt (W := W) (g := pb) (cs := #[.int .i64 e0, .int .i64 e1, .int .i64 e2, .int .i64 e3, .int .i64 e4, .int .i64 e5, .int .i64 e6, .int .i64 e7, .int .i64 d0, .int .i64 d1, .int .i64 d2, .int .i64 d3, .int .i64 d4, .int .i64 d5, .int .i64 d6, .int .i64 d7]) (by (repeat (first | (with_reducible assumption) | (exact (by with_reducible assumption : (∀ i, (_ : World).cell? ⟨pb, i, none⟩ = (#[.int .i64 e0, .int .i64 e1, .int .i64 e2, .int .i64 e3, .int .i64 e4, .int .i64 e5, .int .i64 e6, .int .i64 e7, .int .i64 d0, .int .i64 d1, .int .i64 d2, .int .i64 d3, .int .i64 d4, .int .i64 d5, .int .i64 d6, .int .i64 d7] : Array Value)[i]?) ∧ pb < (_ : World).heap.size ∧ Bx W pb #[.int .i64 e0, .int .i64 e1, .int .i64 e2, .int .i64 e3, .int .i64 e4, .int .i64 e5, .int .i64 e6, .int .i64 e7, .int .i64 d0, .int .i64 d1, .int .i64 d2, .int .i64 d3, .int .i64 d4, .int .i64 d5, .int .i64 d6, .int .i64 d7] (_ : World) ∧ (∀ i, (_ : World).cell? ⟨ph, i, none⟩ = (#[.int .u8 h0, .int .u8 h1, .int .u8 h2] : Array Value)[i]?) ∧ ph < (_ : World).heap.size ∧ Bx W ph #[.int .u8 h0, .int .u8 h1, .int .u8 h2] (_ : World)).2.2.1) | (exact (by with_reducible assumption : (∀ i, (_ : World).cell? ⟨pb, i, none⟩ = (#[.int .i64 e0, .int .i64 e1, .int .i64 e2, .int .i64 e3, .int .i64 e4, .int .i64 e5, .int .i64 e6, .int .i64 e7, .int .i64 d0, .int .i64 d1, .int .i64 d2, .int .i64 d3, .int .i64 d4, .int .i64 d5, .int .i64 d6, .int .i64 d7] : Array Value)[i]?) ∧ pb < (_ : World).heap.size ∧ Bx W pb #[.int .i64 e0, .int .i64 e1, .int .i64 e2, .int .i64 e3, .int .i64 e4, .int .i64 e5, .int .i64 e6, .int .i64 e7, .int .i64 d0, .int .i64 d1, .int .i64 d2, .int .i64 d3, .int .i64 d4, .int .i64 d5, .int .i64 d6, .int .i64 d7] (_ : World) ∧ (∀ i, (_ : World).cell? ⟨ph, i, none⟩ = (#[.int .u8 h0, .int .u8 h1, .int .u8 h2] : Array Value)[i]?) ∧ ph < (_ : World).heap.size ∧ Bx W ph #[.int .u8 h0, .int .u8 h1, .int .u8 h2] (_ : World)).2.2.2.2.2) | (with_reducible refine Bx.call ?_ hb) | (with_reducible refine Bx.drew ?_) | (with_reducible refine Bx.alloc ?_ _) | (with_reducible refine Bx.far2 ?_ (by first | (dsimp only; omega) | omega | (simp; done) | (simp; omega) | omega) (by first | (dsimp only; omega) | omega | (simp; done) | (simp; omega) | omega) _)))), (by (repeat (first | (with_reducible assumption) | (exact (by with_reducible assumption : (∀ i, (_ : World).cell? ⟨pb, i, none⟩ = (#[.int .i64 e0, .int .i64 e1, .int .i64 e2, .int .i64 e3, .int .i64 e4, .int .i64 e5, .int .i64 e6, .int .i64 e7, .int .i64 d0, .int .i64 d1, .int .i64 d2, .int .i64 d3, .int .i64 d4, .int .i64 d5, .int .i64 d6, .int .i64 d7] : Array Value)[i]?) ∧ pb < (_ : World).heap.size ∧ Bx W pb #[.int .i64 e0, .int .i64 e1, .int .i64 e2, .int .i64 e3, .int .i64 e4, .int .i64 e5, .int .i64 e6, .int .i64 e7, .int .i64 d0, .int .i64 d1, .int .i64 d2, .int .i64 d3, .int .i64 d4, .int .i64 d5, .int .i64 d6, .int .i64 d7] (_ : World) ∧ (∀ i, (_ : World).cell? ⟨ph, i, none⟩ = (#[.int .u8 h0, .int .u8 h1, .int .u8 h2] : Array Value)[i]?) ∧ ph < (_ : World).heap.size ∧ Bx W ph #[.int .u8 h0, .int .u8 h1, .int .u8 h2] (_ : World)).2.2.1) | (exact (by with_reducible assumption : (∀ i, (_ : World).cell? ⟨pb, i, none⟩ = (#[.int .i64 e0, .int .i64 e1, .int .i64 e2, .int .i64 e3, .int .i64 e4, .int .i64 e5, .int .i64 e6, .int .i64 e7, .int .i64 d0, .int .i64 d1, .int .i64 d2, .int .i64 d3, .int .i64 d4, .int .i64 d5, .int .i64 d6, .int .i64 d7] : Array Value)[i]?) ∧ pb < (_ : World).heap.size ∧ Bx W pb #[.int .i64 e0, .int .i64 e1, .int .i64 e2, .int .i64 e3, .int .i64 e4, .int .i64 e5, .int .i64 e6, .int .i64 e7, .int .i64 d0, .int .i64 d1, .int .i64 d2, .int .i64 d3, .int .i64 d4, .int .i64 d5, .int .i64 d6, .int .i64 d7] (_ : World) ∧ (∀ i, (_ : World).cell? ⟨ph, i, none⟩ = (#[.int .u8 h0, .int .u8 h1, .int .u8 h2] : Array Value)[i]?) ∧ ph < (_ : World).heap.size ∧ Bx W ph #[.int .u8 h0, .int .u8 h1, .int .u8 h2] (_ : World)).2.2.2.2.2) | (with_reducible refine Bx.call ?_ hb) | (with_reducible refine Bx.drew ?_) | (with_reducible refine Bx.alloc ?_ _) | (with_reducible refine Bx.far2 ?_ (by first | (dsimp only; omega) | omega | (simp; done) | (simp; omega) | omega) (by first | (dsimp only; omega) | omega | (simp; done) | (simp; omega) | omega) _)))), (Bx.box (W := W) (g := ph) (cs := #[.int .u8 h0, .int .u8 h1, .int .u8 h2]) (by (repeat (first | (with_reducible assumption) | (exact (by with_reducible assumption : (∀ i, (_ : World).cell? ⟨pb, i, none⟩ = (#[.int .i64 e0, .int .i64 e1, .int .i64 e2, .int .i64 e3, .int .i64 e4, .int .i64 e5, .int .i64 e6, .int .i64 e7, .int .i64 d0, .int .i64 d1, .int .i64 d2, .int .i64 d3, .int .i64 d4, .int .i64 d5, .int .i64 d6, .int .i64 d7] : Array Value)[i]?) ∧ pb < (_ : World).heap.size ∧ Bx W pb #[.int .i64 e0, .int .i64 e1, .int .i64 e2, .int .i64 e3, .int .i64 e4, .int .i64 e5, .int .i64 e6, .int .i64 e7, .int .i64 d0, .int .i64 d1, .int .i64 d2, .int .i64 d3, .int .i64 d4, .int .i64 d5, .int .i64 d6, .int .i64 d7] (_ : World) ∧ (∀ i, (_ : World).cell? ⟨ph, i, none⟩ = (#[.int .u8 h0, .int .u8 h1, .int .u8 h2] : Array Value)[i]?) ∧ ph < (_ : World).heap.size ∧ Bx W ph #[.int .u8 h0, .int .u8 h1, .int .u8 h2] (_ : World)).2.2.1) | (exact (by with_reducible assumption : (∀ i, (_ : World).cell? ⟨pb, i, none⟩ = (#[.int .i64 e0, .int .i64 e1, .int .i64 e2, .int .i64 e3, .int .i64 e4, .int .i64 e5, .int .i64 e6, .int .i64 e7, .int .i64 d0, .int .i64 d1, .int .i64 d2, .int .i64 d3, .int .i64 d4, .int .i64 d5, .int .i64 d6, .int .i64 d7] : Array Value)[i]?) ∧ pb < (_ : World).heap.size ∧ Bx W pb #[.int .i64 e0, .int .i64 e1, .int .i64 e2, .int .i64 e3, .int .i64 e4, .int .i64 e5, .int .i64 e6, .int .i64 e7, .int .i64 d0, .int .i64 d1, .int .i64 d2, .int .i64 d3, .int .i64 d4, .int .i64 d5, .int .i64 d6, .int .i64 d7] (_ : World) ∧ (∀ i, (_ : World).cell? ⟨ph, i, none⟩ = (#[.int .u8 h0, .int .u8 h1, .int .u8 h2] : Array Value)[i]?) ∧ ph < (_ : World).heap.size ∧ Bx W ph #[.int .u8 h0, .int .u8 h1, .int .u8 h2] (_ : World)).2.2.2.2.2) | (with_reducible refine Bx.call ?_ hb) | (with_reducible refine Bx.drew ?_) | (with_reducible refine Bx.alloc ?_ _) | (with_reducible refine Bx.far2 ?_ (by first | (dsimp only; omega) | omega | (simp; done) | (simp; omega) | omega) (by first | (dsimp only; omega) | omega | (simp; done) | (simp; omega) | omega) _))))).2.1, Bx.lt (W := W) (g := ph) (cs := #[.int .u8 h0, .int .u8 h1, .int .u8 h2]) (by (repeat (first | (with_reducible assumption) | (exact (by with_reducible assumption : (∀ i, (_ : World).cell? ⟨pb, i, none⟩ = (#[.int .i64 e0, .int .i64 e1, .int .i64 e2, .int .i64 e3, .int .i64 e4, .int .i64 e5, .int .i64 e6, .int .i64 e7, .int .i64 d0, .int .i64 d1, .int .i64 d2, .int .i64 d3, .int .i64 d4, .int .i64 d5, .int .i64 d6, .int .i64 d7] : Array Value)[i]?) ∧ pb < (_ : World).heap.size ∧ Bx W pb #[.int .i64 e0, .int .i64 e1, .int .i64 e2, .int .i64 e3, .int .i64 e4, .int .i64 e5, .int .i64 e6, .int .i64 e7, .int .i64 d0, .int .i64 d1, .int .i64 d2, .int .i64 d3, .int .i64 d4, .int .i64 d5, .int .i64 d6, .int .i64 d7] (_ : World) ∧ (∀ i, (_ : World).cell? ⟨ph, i, none⟩ = (#[.int .u8 h0, .int .u8 h1, .int .u8 h2] : Array Value)[i]?) ∧ ph < (_ : World).heap.size ∧ Bx W ph #[.int .u8 h0, .int .u8 h1, .int .u8 h2] (_ : World)).2.2.1) | (exact (by with_reducible assumption : (∀ i, (_ : World).cell? ⟨pb, i, none⟩ = (#[.int .i64 e0, .int .i64 e1, .int .i64 e2, .int .i64 e3, .int .i64 e4, .int .i64 e5, .int .i64 e6, .int .i64 e7, .int .i64 d0, .int .i64 d1, .int .i64 d2, .int .i64 d3, .int .i64 d4, .int .i64 d5, .int .i64 d6, .int .i64 d7] : Array Value)[i]?) ∧ pb < (_ : World).heap.size ∧ Bx W pb #[.int .i64 e0, .int .i64 e1, .int .i64 e2, .int .i64 e3, .int .i64 e4, .int .i64 e5, .int .i64 e6, .int .i64 e7, .int .i64 d0, .int .i64 d1, .int .i64 d2, .int .i64 d3, .int .i64 d4, .int .i64 d5, .int .i64 d6, .int .i64 d7] (_ : World) ∧ (∀ i, (_ : World).cell? ⟨ph, i, none⟩ = (#[.int .u8 h0, .int .u8 h1, .int .u8 h2] : Array Value)[i]?) ∧ ph < (_ : World).heap.size ∧ Bx W ph #[.int .u8 h0, .int .u8 h1, .int .u8 h2] (_ : World)).2.2.2.2.2) | (with_reducible refine Bx.call ?_ hb) | (with_reducible refine Bx.drew ?_) | (with_reducible refine Bx.alloc ?_ _) | (with_reducible refine Bx.far2 ?_ (by first | (dsimp only; omega) | omega | (simp; done) | (simp; omega) | omega) (by first | (dsimp only; omega) | omega | (simp; done) | (simp; omega) | omega) _)))), (by (repeat (first | (with_reducible assumption) | (exact (by with_reducible assumption : (∀ i, (_ : World).cell? ⟨pb, i, none⟩ = (#[.int .i64 e0, .int .i64 e1, .int .i64 e2, .int .i64 e3, .int .i64 e4, .int .i64 e5, .int .i64 e6, .int .i64 e7, .int .i64 d0, .int .i64 d1, .int .i64 d2, .int .i64 d3, .int .i64 d4, .int .i64 d5, .int .i64 d6, .int .i64 d7] : Array Value)[i]?) ∧ pb < (_ : World).heap.size ∧ Bx W pb #[.int .i64 e0, .int .i64 e1, .int .i64 e2, .int .i64 e3, .int .i64 e4, .int .i64 e5, .int .i64 e6, .int .i64 e7, .int .i64 d0, .int .i64 d1, .int .i64 d2, .int .i64 d3, .int .i64 d4, .int .i64 d5, .int .i64 d6, .int .i64 d7] (_ : World) ∧ (∀ i, (_ : World).cell? ⟨ph, i, none⟩ = (#[.int .u8 h0, .int .u8 h1, .int .u8 h2] : Array Value)[i]?) ∧ ph < (_ : World).heap.size ∧ Bx W ph #[.int .u8 h0, .int .u8 h1, .int .u8 h2] (_ : World)).2.2.1) | (exact (by with_reducible assumption : (∀ i, (_ : World).cell? ⟨pb, i, none⟩ = (#[.int .i64 e0, .int .i64 e1, .int .i64 e2, .int .i64 e3, .int .i64 e4, .int .i64 e5, .int .i64 e6, .int .i64 e7, .int .i64 d0, .int .i64 d1, .int .i64 d2, .int .i64 d3, .int .i64 d4, .int .i64 d5, .int .i64 d6, .int .i64 d7] : Array Value)[i]?) ∧ pb < (_ : World).heap.size ∧ Bx W pb #[.int .i64 e0, .int .i64 e1, .int .i64 e2, .int .i64 e3, .int .i64 e4, .int .i64 e5, .int .i64 e6, .int .i64 e7, .int .i64 d0, .int .i64 d1, .int .i64 d2, .int .i64 d3, .int .i64 d4, .int .i64 d5, .int .i64 d6, .int .i64 d7] (_ : World) ∧ (∀ i, (_ : World).cell? ⟨ph, i, none⟩ = (#[.int .u8 h0, .int .u8 h1, .int .u8 h2] : Array Value)[i]?) ∧ ph < (_ : World).heap.size ∧ Bx W ph #[.int .u8 h0, .int .u8 h1, .int .u8 h2] (_ : World)).2.2.2.2.2) | (with_reducible refine Bx.call ?_ hb) | (with_reducible refine Bx.drew ?_) | (with_reducible refine Bx.alloc ?_ _) | (with_reducible refine Bx.far2 ?_ (by first | (dsimp only; omega) | omega | (simp; done) | (simp; omega) | omega) (by first | (dsimp only; omega) | omega | (simp; done) | (simp; omega) | omega) _))))⟩))
      (fail)
    all_goals go_wp2_with (fail)
    go_goals
    all_goals go_meet
    all_goals exact ⟨_, _, rfl, rfl, by omega, by omega, by omega, by omega, by omega, by omega, by omega, by (repeat (first | (with_reducible exact Below.refl _ _) | (with_reducible assumption) | (with_reducible refine Near.up _ ?_) | (with_reducible refine Below.drew ?_) | (with_reducible refine below_alloc_on ?_ _) | (with_reducible refine below_set_on ?_ (by first | (simp; done) | (simp; omega) | omega) _))), by (repeat (first | (with_reducible assumption) | (with_reducible exact box_new _ _ _) | ((with_reducible apply box_at); (first | (with_reducible rfl) | (simp <;> omega))) | (with_reducible apply Box.drew) | (with_reducible apply Box.drewN) | (with_reducible apply Box.near) | (with_reducible apply Box.alloc) | ((with_reducible apply box_far); (first | assumption | omega | (simp <;> omega))) | ((with_reducible apply Box.one_set); (with_reducible assumption)) | ((with_reducible apply Box.two_set); (with_reducible assumption)) | ((with_reducible apply Box.three_set); (with_reducible assumption)) | (with_reducible apply Box.set) | (simp only [List.size_toArray, List.length_cons, List.length_nil, Array.size_setIfInBounds] <;> omega))), by (repeat (first | (with_reducible assumption) | (with_reducible exact box_new _ _ _) | ((with_reducible apply box_at); (first | (with_reducible rfl) | (simp <;> omega))) | (with_reducible apply Box.drew) | (with_reducible apply Box.drewN) | (with_reducible apply Box.near) | (with_reducible apply Box.alloc) | ((with_reducible apply box_far); (first | assumption | omega | (simp <;> omega))) | ((with_reducible apply Box.one_set); (with_reducible assumption)) | ((with_reducible apply Box.two_set); (with_reducible assumption)) | ((with_reducible apply Box.three_set); (with_reducible assumption)) | (with_reducible apply Box.set) | (simp only [List.size_toArray, List.length_cons, List.length_nil, Array.size_setIfInBounds] <;> omega))), by (repeat (first | (with_reducible assumption) | (with_reducible exact box_new _ _ _) | ((with_reducible apply box_at); (first | (with_reducible rfl) | (simp <;> omega))) | (with_reducible apply Box.drew) | (with_reducible apply Box.drewN) | (with_reducible apply Box.near) | (with_reducible apply Box.alloc) | ((with_reducible apply box_far); (first | assumption | omega | (simp <;> omega))) | ((with_reducible apply Box.one_set); (with_reducible assumption)) | ((with_reducible apply Box.two_set); (with_reducible assumption)) | ((with_reducible apply Box.three_set); (with_reducible assumption)) | (with_reducible apply Box.set) | (simp only [List.size_toArray, List.length_cons, List.length_nil, Array.size_setIfInBounds] <;> omega)))⟩
  case rest =>
    obtain ⟨pe, pd, rfl, rfl, o_pe, o_pd, n_pe_pd, n_pe_pb, n_pd_pb, n_pe_ph, n_pd_ph, A, X_ph, X_pe, X_pd⟩ := hcut
    clear X_pb n_pb_ph n_ph_pb o_pb n_pe_pb n_pd_pb
    obtain ⟨l_ph, c_ph, f_ph⟩ := id X_ph
    obtain ⟨l_pe, c_pe, f_pe⟩ := id X_pe
    obtain ⟨l_pd, c_pd, f_pd⟩ := id X_pd
    go_wp2_with (fail)
    refine (HR1.out _).mono ?_
    rintro e w1 ⟨rfl, hb⟩
    replace A := below_call A hb
    clear l_ph c_ph f_ph
    replace X_ph := X_ph.below hb
    clear l_pe c_pe f_pe
    replace X_pe := X_pe.below hb
    clear l_pd c_pd f_pd
    replace X_pd := X_pd.below hb
    clear hb
    obtain ⟨l_ph, c_ph, f_ph⟩ := id X_ph
    obtain ⟨l_pe, c_pe, f_pe⟩ := id X_pe
    obtain ⟨l_pd, c_pd, f_pd⟩ := id X_pd
    go_upto_region 5 with (fail)
    refine at_world (fun V => Below W.heap.size W V ∧ Box V (ph) #[.int .u8 h0, .int .u8 h1, .int .u8 h2] ∧ Box V (pe) #[.int .i64 e0, .int .i64 e1, .int .i64 e2, .int .i64 e3, .int .i64 e4, .int .i64 e5, .int .i64 e6, .int .i64 e7] ∧ Box V (pd) #[.int .i64 (e0 + 1), .int .i64 d1, .int .i64 d2, .int .i64 d3, .int .i64 d4, .int .i64 d5, .int .i64 d6, .int .i64 d7]) ⟨by (repeat (first | (with_reducible exact Below.refl _ _) | (with_reducible assumption) | (with_reducible refine Near.up _ ?_) | (with_reducible refine Below.drew ?_) | (with_reducible refine below_alloc_on ?_ _) | (with_reducible refine below_set_on ?_ (by first | (simp; done) | (simp; omega) | omega) _))), box_cast (by (repeat (first | (with_reducible assumption) | (with_reducible exact box_new _ _ _) | ((with_reducible apply box_at); (first | (with_reducible rfl) | (simp <;> omega))) | (with_reducible apply Box.drew) | (with_reducible apply Box.drewN) | (with_reducible apply Box.near) | (with_reducible apply Box.alloc) | ((with_reducible apply box_far); (first | assumption | omega | (simp <;> omega))) | ((with_reducible apply Box.one_set); (with_reducible assumption)) | ((with_reducible apply Box.two_set); (with_reducible assumption)) | ((with_reducible apply Box.three_set); (with_reducible assumption)) | (with_reducible apply Box.set) | (simp only [List.size_toArray, List.length_cons, List.length_nil, Array.size_setIfInBounds] <;> omega)))) (by first | rfl | simp), box_cast (by (repeat (first | (with_reducible assumption) | (with_reducible exact box_new _ _ _) | ((with_reducible apply box_at); (first | (with_reducible rfl) | (simp <;> omega))) | (with_reducible apply Box.drew) | (with_reducible apply Box.drewN) | (with_reducible apply Box.near) | (with_reducible apply Box.alloc) | ((with_reducible apply box_far); (first | assumption | omega | (simp <;> omega))) | ((with_reducible apply Box.one_set); (with_reducible assumption)) | ((with_reducible apply Box.two_set); (with_reducible assumption)) | ((with_reducible apply Box.three_set); (with_reducible assumption)) | (with_reducible apply Box.set) | (simp only [List.size_toArray, List.length_cons, List.length_nil, Array.size_setIfInBounds] <;> omega)))) (by first | rfl | simp), box_cast (by (repeat (first | (with_reducible assumption) | (with_reducible exact box_new _ _ _) | ((with_reducible apply box_at); (first | (with_reducible rfl) | (simp <;> omega))) | (with_reducible apply Box.drew) | (with_reducible apply Box.drewN) | (with_reducible apply Box.near) | (with_reducible apply Box.alloc) | ((with_reducible apply box_far); (first | assumption | omega | (simp <;> omega))) | ((with_reducible apply Box.one_set); (with_reducible assumption)) | ((with_reducible apply Box.two_set); (with_reducible assumption)) | ((with_reducible apply Box.three_set); (with_reducible assumption)) | (with_reducible apply Box.set) | (simp only [List.size_toArray, List.length_cons, List.length_nil, Array.size_setIfInBounds] <;> omega)))) (by first | rfl | simp)⟩ ?_
    clear A X_ph l_ph c_ph f_ph X_pe l_pe c_pe f_pe X_pd l_pd c_pd f_pd
    rintro w2 ⟨A, X_ph, X_pe, X_pd⟩
    obtain ⟨l_ph, c_ph, f_ph⟩ := id X_ph
    obtain ⟨l_pe, c_pe, f_pe⟩ := id X_pe
    obtain ⟨l_pd, c_pd, f_pd⟩ := id X_pd
    go_wp2_with (fail)
    refine (HR2.out _).mono ?_
    rintro e w3 ⟨rfl, hb⟩
    replace A := below_call A hb
    clear l_ph c_ph f_ph
    replace X_ph := X_ph.below hb
    clear l_pe c_pe f_pe
    replace X_pe := X_pe.below hb
    clear l_pd c_pd f_pd
    replace X_pd := X_pd.below hb
    clear hb
    obtain ⟨l_ph, c_ph, f_ph⟩ := id X_ph
    obtain ⟨l_pe, c_pe, f_pe⟩ := id X_pe
    obtain ⟨l_pd, c_pd, f_pd⟩ := id X_pd
    go_upto_region 8 with (fail)
    go_wp2_with (fail)
    refine (HN1.out _).mono ?_
    rintro e w4 ⟨rfl, hb⟩
    replace A := below_call A hb
    clear l_ph c_ph f_ph
    replace X_ph := X_ph.below hb
    clear l_pe c_pe f_pe
    replace X_pe := X_pe.below hb
    clear l_pd c_pd f_pd
    replace X_pd := X_pd.below hb
    clear hb
    obtain ⟨l_ph, c_ph, f_ph⟩ := id X_ph
    obtain ⟨l_pe, c_pe, f_pe⟩ := id X_pe
    obtain ⟨l_pd, c_pd, f_pd⟩ := id X_pd
    go_upto_region 9 with (fail)
    have z_pf : W.heap.size ≤ w4.heap.size := by (have h9 := A.size; omega)
    have n_ph_pf : ¬ ph = w4.heap.size := by omega
    have n_pf_ph : ¬ w4.heap.size = ph := by omega
    have n_pe_pf : ¬ pe = w4.heap.size := by omega
    have n_pf_pe : ¬ w4.heap.size = pe := by omega
    have n_pd_pf : ¬ pd = w4.heap.size := by omega
    have n_pf_pd : ¬ w4.heap.size = pd := by omega
    refine at_world (fun V => Below W.heap.size W V ∧ Box V (ph) #[.int .u8 h0, .int .u8 h1, .int .u8 h2] ∧ Box V (pe) #[.int .i64 e0, .int .i64 e1, .int .i64 e2, .int .i64 e3, .int .i64 e4, .int .i64 e5, .int .i64 e6, .int .i64 e7] ∧ Box V (pd) #[.int .i64 (e0 + 1), .int .i64 d1, .int .i64 d2, .int .i64 d3, .int .i64 d4, .int .i64 d5, .int .i64 d6, .int .i64 d7] ∧ Box V (w4.heap.size) #[.string ⟨#[]⟩, .string ⟨#[]⟩, .bool true, .int .i64 1, .string S, .int .i64 0]) ⟨by (repeat (first | (with_reducible exact Below.refl _ _) | (with_reducible assumption) | (with_reducible refine Near.up _ ?_) | (with_reducible refine Below.drew ?_) | (with_reducible refine below_alloc_on ?_ _) | (with_reducible refine below_set_on ?_ (by first | (simp; done) | (simp; omega) | omega) _))), box_cast (by (repeat (first | (with_reducible assumption) | (with_reducible exact box_new _ _ _) | ((with_reducible apply box_at); (first | (with_reducible rfl) | (simp <;> omega))) | (with_reducible apply Box.drew) | (with_reducible apply Box.drewN) | (with_reducible apply Box.near) | (with_reducible apply Box.alloc) | ((with_reducible apply box_far); (first | assumption | omega | (simp <;> omega))) | ((with_reducible apply Box.one_set); (with_reducible assumption)) | ((with_reducible apply Box.two_set); (with_reducible assumption)) | ((with_reducible apply Box.three_set); (with_reducible assumption)) | (with_reducible apply Box.set) | (simp only [List.size_toArray, List.length_cons, List.length_nil, Array.size_setIfInBounds] <;> omega)))) (by first | rfl | simp), box_cast (by (repeat (first | (with_reducible assumption) | (with_reducible exact box_new _ _ _) | ((with_reducible apply box_at); (first | (with_reducible rfl) | (simp <;> omega))) | (with_reducible apply Box.drew) | (with_reducible apply Box.drewN) | (with_reducible apply Box.near) | (with_reducible apply Box.alloc) | ((with_reducible apply box_far); (first | assumption | omega | (simp <;> omega))) | ((with_reducible apply Box.one_set); (with_reducible assumption)) | ((with_reducible apply Box.two_set); (with_reducible assumption)) | ((with_reducible apply Box.three_set); (with_reducible assumption)) | (with_reducible apply Box.set) | (simp only [List.size_toArray, List.length_cons, List.length_nil, Array.size_setIfInBounds] <;> omega)))) (by first | rfl | simp), box_cast (by (repeat (first | (with_reducible assumption) | (with_reducible exact box_new _ _ _) | ((with_reducible apply box_at); (first | (with_reducible rfl) | (simp <;> omega))) | (with_reducible apply Box.drew) | (with_reducible apply Box.drewN) | (with_reducible apply Box.near) | (with_reducible apply Box.alloc) | ((with_reducible apply box_far); (first | assumption | omega | (simp <;> omega))) | ((with_reducible apply Box.one_set); (with_reducible assumption)) | ((with_reducible apply Box.two_set); (with_reducible assumption)) | ((with_reducible apply Box.three_set); (with_reducible assumption)) | (with_reducible apply Box.set) | (simp only [List.size_toArray, List.length_cons, List.length_nil, Array.size_setIfInBounds] <;> omega)))) (by first | rfl | simp), box_cast (by (repeat (first | (with_reducible assumption) | (with_reducible exact box_new _ _ _) | ((with_reducible apply box_at); (first | (with_reducible rfl) | (simp <;> omega))) | (with_reducible apply Box.drew) | (with_reducible apply Box.drewN) | (with_reducible apply Box.near) | (with_reducible apply Box.alloc) | ((with_reducible apply box_far); (first | assumption | omega | (simp <;> omega))) | ((with_reducible apply Box.one_set); (with_reducible assumption)) | ((with_reducible apply Box.two_set); (with_reducible assumption)) | ((with_reducible apply Box.three_set); (with_reducible assumption)) | (with_reducible apply Box.set) | (simp only [List.size_toArray, List.length_cons, List.length_nil, Array.size_setIfInBounds] <;> omega)))) (by first | rfl | simp)⟩ ?_
    clear A X_ph l_ph c_ph f_ph X_pe l_pe c_pe f_pe X_pd l_pd c_pd f_pd
    rintro w5 ⟨A, X_ph, X_pe, X_pd, X_pf⟩
    obtain ⟨pf, h_pf⟩ : ∃ pf, w4.heap.size = pf := ⟨_, rfl⟩
    have o_pf : W.heap.size ≤ pf := by omega
    rw [h_pf] at X_pf n_ph_pf n_pf_ph n_pe_pf n_pf_pe n_pd_pf n_pf_pd
    simp only [h_pf]
    clear h_pf z_pf
    obtain ⟨l_ph, c_ph, f_ph⟩ := id X_ph
    obtain ⟨l_pe, c_pe, f_pe⟩ := id X_pe
    obtain ⟨l_pd, c_pd, f_pd⟩ := id X_pd
    obtain ⟨l_pf, c_pf, f_pf⟩ := id X_pf
    have z_w5 := A.size
    go_loopg [] 6 (fun gk wr => ∃ (j : Nat) (X : ByteArray) (q : Bool) (c : ByteArray) (n : Int), j ≤ 6 ∧ gk = 6 - j ∧ Below W.heap.size W wr ∧ Box wr ph #[.int .u8 h0, .int .u8 h1, .int .u8 h2] ∧ Box wr pe #[.int .i64 e0, .int .i64 e1, .int .i64 e2, .int .i64 e3, .int .i64 e4, .int .i64 e5, .int .i64 e6, .int .i64 e7] ∧ Box wr pd #[.int .i64 (e0 + 1), .int .i64 d1, .int .i64 d2, .int .i64 d3, .int .i64 d4, .int .i64 d5, .int .i64 d6, .int .i64 d7] ∧ Box wr pf #[.string ⟨#[]⟩, .string X, .bool q, .int .i64 1, .string c, .int .i64 n] ∧ ((j ≤ 5 ∧ q = true ∧ c = S ∧ n = 4 * (j : Int)) ∨ (j = 6 ∧ X = S ∧ q = false ∧ c = ⟨#[]⟩ ∧ n = 0)))
    case atStart => exact ⟨0, ⟨#[]⟩, true, S, 0, by omega, rfl, A, X_ph, X_pe, X_pd, X_pf, .inl ⟨by omega, rfl, rfl, by simp⟩⟩
    case round =>
      clear A z_w5 X_ph l_ph c_ph f_ph X_pe l_pe c_pe f_pe X_pd l_pd c_pd f_pd X_pf l_pf c_pf f_pf
      obtain ⟨j, X, q, c, n, hj, rfl, A, X_ph, X_pe, X_pd, X_pf, hst⟩ := hrel
      rcases hst with ⟨h5, hq, hc, hn⟩ | ⟨h6, hX, hq, hc, hn⟩
      · rw [hq, hc, hn] at X_pf
        clear hq hc hn
        obtain ⟨X', q', c', n', E, HS, hnx⟩ := w1_step1 hS.out X j h5
        have HX := Lib.hid hnx
        have HS := Lib.hid HS
        clear hnx
        obtain ⟨l_ph, c_ph, f_ph⟩ := id X_ph
        obtain ⟨l_pe, c_pe, f_pe⟩ := id X_pe
        obtain ⟨l_pd, c_pd, f_pd⟩ := id X_pd
        obtain ⟨l_pf, c_pf, f_pf⟩ := id X_pf
        go_wp2_with (fail)
        refine (HS.out _).mono ?_
        rintro e w6 ⟨rfl, hb⟩
        replace A := below_call A hb
        clear l_ph c_ph f_ph
        replace X_ph := X_ph.below hb
        clear l_pe c_pe f_pe
        replace X_pe := X_pe.below hb
        clear l_pd c_pd f_pd
        replace X_pd := X_pd.below hb
        clear l_pf c_pf f_pf
        replace X_pf := X_pf.below hb
        clear hb
        obtain ⟨l_ph, c_ph, f_ph⟩ := id X_ph
        obtain ⟨l_pe, c_pe, f_pe⟩ := id X_pe
        obtain ⟨l_pd, c_pd, f_pd⟩ := id X_pd
        obtain ⟨l_pf, c_pf, f_pf⟩ := id X_pf
        have F5 := Lib.hid (Box.six_set X_pf (.string ⟨#[]⟩) (.string X') (.bool q') (.int .i64 1) (.string c') (.int .i64 n'))
        go_wp2
        go_roundg (6 - (j + 1))
        case measure => omega
        case rel => exact ⟨j + 1, X', q', c', n', by omega, by omega, by (repeat (first | (with_reducible exact Below.refl _ _) | (with_reducible assumption) | (with_reducible refine Near.up _ ?_) | (with_reducible refine Below.drew ?_) | (with_reducible refine below_alloc_on ?_ _) | (with_reducible refine below_set_on ?_ (by first | (simp; done) | (simp; omega) | omega) _))), by (repeat (first | (with_reducible assumption) | (with_reducible exact box_new _ _ _) | ((with_reducible apply box_at); (first | (with_reducible rfl) | (simp <;> omega))) | (with_reducible apply Box.drew) | (with_reducible apply Box.drewN) | (with_reducible apply Box.near) | (with_reducible apply Box.alloc) | ((with_reducible apply box_far); (first | assumption | omega | (simp <;> omega))) | ((with_reducible apply Box.one_set); (with_reducible assumption)) | ((with_reducible apply Box.two_set); (with_reducible assumption)) | ((with_reducible apply Box.three_set); (with_reducible assumption)) | (with_reducible apply Box.set) | (simp only [List.size_toArray, List.length_cons, List.length_nil, Array.size_setIfInBounds] <;> omega))), by (repeat (first | (with_reducible assumption) | (with_reducible exact box_new _ _ _) | ((with_reducible apply box_at); (first | (with_reducible rfl) | (simp <;> omega))) | (with_reducible apply Box.drew) | (with_reducible apply Box.drewN) | (with_reducible apply Box.near) | (with_reducible apply Box.alloc) | ((with_reducible apply box_far); (first | assumption | omega | (simp <;> omega))) | ((with_reducible apply Box.one_set); (with_reducible assumption)) | ((with_reducible apply Box.two_set); (with_reducible assumption)) | ((with_reducible apply Box.three_set); (with_reducible assumption)) | (with_reducible apply Box.set) | (simp only [List.size_toArray, List.length_cons, List.length_nil, Array.size_setIfInBounds] <;> omega))), by (repeat (first | (with_reducible assumption) | (with_reducible exact box_new _ _ _) | ((with_reducible apply box_at); (first | (with_reducible rfl) | (simp <;> omega))) | (with_reducible apply Box.drew) | (with_reducible apply Box.drewN) | (with_reducible apply Box.near) | (with_reducible apply Box.alloc) | ((with_reducible apply box_far); (first | assumption | omega | (simp <;> omega))) | ((with_reducible apply Box.one_set); (with_reducible assumption)) | ((with_reducible apply Box.two_set); (with_reducible assumption)) | ((with_reducible apply Box.three_set); (with_reducible assumption)) | (with_reducible apply Box.set) | (simp only [List.size_toArray, List.length_cons, List.length_nil, Array.size_setIfInBounds] <;> omega))), F5.out, HX.out⟩
      · rw [hq, hc, hn, hX] at X_pf
        clear hq hc hn hX h6 hj
        obtain ⟨l_ph, c_ph, f_ph⟩ := id X_ph
        obtain ⟨l_pe, c_pe, f_pe⟩ := id X_pe
        obtain ⟨l_pd, c_pd, f_pd⟩ := id X_pd
        obtain ⟨l_pf, c_pf, f_pf⟩ := id X_pf
        have d0 : (e0 != e0) = false := by simp
        go_upto_region 11 with (fail)
        refine wp_region_calm (by kernel_rfl) (by kernel_rfl) ?_
        repeat (go_big_quiet_step (((go_at_call 8; exact calm_of _ (HB1.out _)))))
        refine wpQuiet_nil ?_
        intro _ hw'
        obtain ⟨u, rfl⟩ := hw'
        replace A := u.up A
        replace X_ph := X_ph.near u
        clear l_ph c_ph f_ph
        replace X_pe := X_pe.near u
        clear l_pe c_pe f_pe
        replace X_pd := X_pd.near u
        clear l_pd c_pd f_pd
        replace X_pf := X_pf.near u
        clear l_pf c_pf f_pf
        generalize u.at_ = w20 at *
        obtain ⟨l_ph, c_ph, f_ph⟩ := id X_ph
        obtain ⟨l_pe, c_pe, f_pe⟩ := id X_pe
        obtain ⟨l_pd, c_pd, f_pd⟩ := id X_pd
        obtain ⟨l_pf, c_pf, f_pf⟩ := id X_pf
        go_wp2_with (fail)
        refine (HN2.out _).mono ?_
        rintro e w6 ⟨rfl, hb⟩
        replace A := below_call A hb
        clear l_ph c_ph f_ph
        replace X_ph := X_ph.below hb
        clear l_pe c_pe f_pe
        replace X_pe := X_pe.below hb
        clear l_pd c_pd f_pd
        replace X_pd := X_pd.below hb
        clear l_pf c_pf f_pf
        replace X_pf := X_pf.below hb
        clear hb
        obtain ⟨l_ph, c_ph, f_ph⟩ := id X_ph
        obtain ⟨l_pe, c_pe, f_pe⟩ := id X_pe
        obtain ⟨l_pd, c_pd, f_pd⟩ := id X_pd
        obtain ⟨l_pf, c_pf, f_pf⟩ := id X_pf
        go_upto_region 15 with (fail)
        have z_pg : W.heap.size ≤ w6.heap.size := by (have h9 := A.size; omega)
        have n_ph_pg : ¬ ph = w6.heap.size := by omega
        have n_pg_ph : ¬ w6.heap.size = ph := by omega
        have n_pe_pg : ¬ pe = w6.heap.size := by omega
        have n_pg_pe : ¬ w6.heap.size = pe := by omega
        have n_pd_pg : ¬ pd = w6.heap.size := by omega
        have n_pg_pd : ¬ w6.heap.size = pd := by omega
        have n_pf_pg : ¬ pf = w6.heap.size := by omega
        have n_pg_pf : ¬ w6.heap.size = pf := by omega
        refine at_world (fun V => Below W.heap.size W V ∧ Box V (ph) #[.int .u8 h0, .int .u8 h1, .int .u8 h2] ∧ Box V (pe) #[.int .i64 e0, .int .i64 e1, .int .i64 e2, .int .i64 e3, .int .i64 e4, .int .i64 e5, .int .i64 e6, .int .i64 e7] ∧ Box V (pd) #[.int .i64 (e0 + 1), .int .i64 d1, .int .i64 d2, .int .i64 d3, .int .i64 d4, .int .i64 d5, .int .i64 d6, .int .i64 d7] ∧ Box V (pf) #[.string ⟨#[]⟩, .string S, .bool false, .int .i64 1, .string ⟨#[]⟩, .int .i64 0] ∧ Box V (w6.heap.size) #[.string ⟨#[]⟩, .string S, .bool true, .int .i64 0, .string D, .int .i64 0]) ⟨by (repeat (first | (with_reducible exact Below.refl _ _) | (with_reducible assumption) | (with_reducible refine Near.up _ ?_) | (with_reducible refine Below.drew ?_) | (with_reducible refine below_alloc_on ?_ _) | (with_reducible refine below_set_on ?_ (by first | (simp; done) | (simp; omega) | omega) _))), box_cast (by (repeat (first | (with_reducible assumption) | (with_reducible exact box_new _ _ _) | ((with_reducible apply box_at); (first | (with_reducible rfl) | (simp <;> omega))) | (with_reducible apply Box.drew) | (with_reducible apply Box.drewN) | (with_reducible apply Box.near) | (with_reducible apply Box.alloc) | ((with_reducible apply box_far); (first | assumption | omega | (simp <;> omega))) | ((with_reducible apply Box.one_set); (with_reducible assumption)) | ((with_reducible apply Box.two_set); (with_reducible assumption)) | ((with_reducible apply Box.three_set); (with_reducible assumption)) | (with_reducible apply Box.set) | (simp only [List.size_toArray, List.length_cons, List.length_nil, Array.size_setIfInBounds] <;> omega)))) (by first | rfl | simp), box_cast (by (repeat (first | (with_reducible assumption) | (with_reducible exact box_new _ _ _) | ((with_reducible apply box_at); (first | (with_reducible rfl) | (simp <;> omega))) | (with_reducible apply Box.drew) | (with_reducible apply Box.drewN) | (with_reducible apply Box.near) | (with_reducible apply Box.alloc) | ((with_reducible apply box_far); (first | assumption | omega | (simp <;> omega))) | ((with_reducible apply Box.one_set); (with_reducible assumption)) | ((with_reducible apply Box.two_set); (with_reducible assumption)) | ((with_reducible apply Box.three_set); (with_reducible assumption)) | (with_reducible apply Box.set) | (simp only [List.size_toArray, List.length_cons, List.length_nil, Array.size_setIfInBounds] <;> omega)))) (by first | rfl | simp), box_cast (by (repeat (first | (with_reducible assumption) | (with_reducible exact box_new _ _ _) | ((with_reducible apply box_at); (first | (with_reducible rfl) | (simp <;> omega))) | (with_reducible apply Box.drew) | (with_reducible apply Box.drewN) | (with_reducible apply Box.near) | (with_reducible apply Box.alloc) | ((with_reducible apply box_far); (first | assumption | omega | (simp <;> omega))) | ((with_reducible apply Box.one_set); (with_reducible assumption)) | ((with_reducible apply Box.two_set); (with_reducible assumption)) | ((with_reducible apply Box.three_set); (with_reducible assumption)) | (with_reducible apply Box.set) | (simp only [List.size_toArray, List.length_cons, List.length_nil, Array.size_setIfInBounds] <;> omega)))) (by first | rfl | simp), box_cast (by (repeat (first | (with_reducible assumption) | (with_reducible exact box_new _ _ _) | ((with_reducible apply box_at); (first | (with_reducible rfl) | (simp <;> omega))) | (with_reducible apply Box.drew) | (with_reducible apply Box.drewN) | (with_reducible apply Box.near) | (with_reducible apply Box.alloc) | ((with_reducible apply box_far); (first | assumption | omega | (simp <;> omega))) | ((with_reducible apply Box.one_set); (with_reducible assumption)) | ((with_reducible apply Box.two_set); (with_reducible assumption)) | ((with_reducible apply Box.three_set); (with_reducible assumption)) | (with_reducible apply Box.set) | (simp only [List.size_toArray, List.length_cons, List.length_nil, Array.size_setIfInBounds] <;> omega)))) (by first | rfl | simp), box_cast (by (repeat (first | (with_reducible assumption) | (with_reducible exact box_new _ _ _) | ((with_reducible apply box_at); (first | (with_reducible rfl) | (simp <;> omega))) | (with_reducible apply Box.drew) | (with_reducible apply Box.drewN) | (with_reducible apply Box.near) | (with_reducible apply Box.alloc) | ((with_reducible apply box_far); (first | assumption | omega | (simp <;> omega))) | ((with_reducible apply Box.one_set); (with_reducible assumption)) | ((with_reducible apply Box.two_set); (with_reducible assumption)) | ((with_reducible apply Box.three_set); (with_reducible assumption)) | (with_reducible apply Box.set) | (simp only [List.size_toArray, List.length_cons, List.length_nil, Array.size_setIfInBounds] <;> omega)))) (by first | rfl | simp)⟩ ?_
        clear A X_ph l_ph c_ph f_ph X_pe l_pe c_pe f_pe X_pd l_pd c_pd f_pd X_pf l_pf c_pf f_pf
        rintro w7 ⟨A, X_ph, X_pe, X_pd, X_pf, X_pg⟩
        obtain ⟨pg, h_pg⟩ : ∃ pg, w6.heap.size = pg := ⟨_, rfl⟩
        have o_pg : W.heap.size ≤ pg := by omega
        rw [h_pg] at X_pg n_ph_pg n_pg_ph n_pe_pg n_pg_pe n_pd_pg n_pg_pd n_pf_pg n_pg_pf
        simp only [h_pg]
        clear h_pg z_pg
        obtain ⟨l_ph, c_ph, f_ph⟩ := id X_ph
        obtain ⟨l_pe, c_pe, f_pe⟩ := id X_pe
        obtain ⟨l_pd, c_pd, f_pd⟩ := id X_pd
        obtain ⟨l_pf, c_pf, f_pf⟩ := id X_pf
        obtain ⟨l_pg, c_pg, f_pg⟩ := id X_pg
        clear X_pf l_pf c_pf f_pf HB1 HN1 HN2 HR1 HR2
        obtain ⟨N, hN⟩ : ∃ N : Nat, h1 % 12 = N := ⟨(h1 % 12).toNat, by omega⟩
        obtain ⟨M, hM⟩ : ∃ M, h2 % 16 = M := ⟨_, rfl⟩
        have N0 : N ≤ 11 := by omega
        have M0 : 0 ≤ M := by omega
        have z_w7 := A.size
        go_upto_region 16 with (fail)
        try simp only [hN]
        clear hk hN
        go_loopg [98, 14, 15, 16] N (fun gk i v q0 q1 wr => ∃ (j : Nat) (X : ByteArray) (q : Bool) (c : ByteArray) (n r : Int), j ≤ N ∧ gk = N - j ∧ i = .int .i64 j ∧ v = .int .i64 r ∧ Below W.heap.size W wr ∧ Box wr ph #[.int .u8 h0, .int .u8 h1, .int .u8 h2] ∧ Box wr pe #[.int .i64 e0, .int .i64 e1, .int .i64 e2, .int .i64 e3, .int .i64 e4, .int .i64 e5, .int .i64 e6, .int .i64 e7] ∧ Box wr pd #[.int .i64 (e0 + 1), .int .i64 d1, .int .i64 d2, .int .i64 d3, .int .i64 d4, .int .i64 d5, .int .i64 d6, .int .i64 d7] ∧ Box wr pg #[.string X, .string S, .bool q, .int .i64 0, .string c, .int .i64 n] ∧ Wr1 D X q c n r)
        case atStart => exact ⟨0, ⟨#[]⟩, true, D, 0, 0, by omega, rfl, rfl, rfl, A, X_ph, X_pe, X_pd, X_pg, by decide, .inl ⟨rfl, rfl, rfl, gt_nil, by omega, by omega⟩⟩
        case round =>
          clear A z_w7 X_ph l_ph c_ph f_ph X_pe l_pe c_pe f_pe X_pd l_pd c_pd f_pd X_pg l_pg c_pg f_pg
          obtain ⟨j, X, q, c, n, r, hj, rfl, rfl, rfl, A, X_ph, X_pe, X_pd, X_pg, hst⟩ := hrel
          by_cases hlt : j < N
          · obtain ⟨v, hv⟩ : ∃ v, (M != (j : Int)) = v := ⟨_, rfl⟩
            obtain ⟨X', q', c', n', E, HS, hn1, hn2, hE0, hE1⟩ := wr_step1 S hD.out hst v
            have HS := Lib.hid HS
            have Hn1 := Lib.hid hn1
            have Hn2 := Lib.hid hn2
            clear hn1 hn2 hst
            obtain ⟨l_ph, c_ph, f_ph⟩ := id X_ph
            obtain ⟨l_pe, c_pe, f_pe⟩ := id X_pe
            obtain ⟨l_pd, c_pd, f_pd⟩ := id X_pd
            obtain ⟨l_pg, c_pg, f_pg⟩ := id X_pg
            go_wp2_with (fail)
            refine (HS.out _).mono ?_
            rintro e w8 ⟨rfl, hb⟩
            replace A := below_call A hb
            clear l_ph c_ph f_ph
            replace X_ph := X_ph.below hb
            clear l_pe c_pe f_pe
            replace X_pe := X_pe.below hb
            clear l_pd c_pd f_pd
            replace X_pd := X_pd.below hb
            clear l_pg c_pg f_pg
            replace X_pg := X_pg.below hb
            clear hb
            obtain ⟨l_ph, c_ph, f_ph⟩ := id X_ph
            obtain ⟨l_pe, c_pe, f_pe⟩ := id X_pe
            obtain ⟨l_pd, c_pd, f_pd⟩ := id X_pd
            obtain ⟨l_pg, c_pg, f_pg⟩ := id X_pg
            have F5 := Lib.hid (Box.six_set X_pg (.string X') (.string S) (.bool q') (.int .i64 0) (.string c') (.int .i64 n'))
            by_cases hE : E = 1
            · subst hE
              have Hn := Lib.hid (Hn1.out rfl)
              clear Hn1 Hn2
              go_wp2
              go_roundg (N - (j + 1))
              case measure => omega
              case rel => exact ⟨j + 1, X', q', c', n', _, by omega, by omega, by go_num, rfl, by (repeat (first | (with_reducible exact Below.refl _ _) | (with_reducible assumption) | (with_reducible refine Near.up _ ?_) | (with_reducible refine Below.drew ?_) | (with_reducible refine below_alloc_on ?_ _) | (with_reducible refine below_set_on ?_ (by first | (simp; done) | (simp; omega) | omega) _))), by (repeat (first | (with_reducible assumption) | (with_reducible exact box_new _ _ _) | ((with_reducible apply box_at); (first | (with_reducible rfl) | (simp <;> omega))) | (with_reducible apply Box.drew) | (with_reducible apply Box.drewN) | (with_reducible apply Box.near) | (with_reducible apply Box.alloc) | ((with_reducible apply box_far); (first | assumption | omega | (simp <;> omega))) | ((with_reducible apply Box.one_set); (with_reducible assumption)) | ((with_reducible apply Box.two_set); (with_reducible assumption)) | ((with_reducible apply Box.three_set); (with_reducible assumption)) | (with_reducible apply Box.set) | (simp only [List.size_toArray, List.length_cons, List.length_nil, Array.size_setIfInBounds] <;> omega))), by (repeat (first | (with_reducible assumption) | (with_reducible exact box_new _ _ _) | ((with_reducible apply box_at); (first | (with_reducible rfl) | (simp <;> omega))) | (with_reducible apply Box.drew) | (with_reducible apply Box.drewN) | (with_reducible apply Box.near) | (with_reducible apply Box.alloc) | ((with_reducible apply box_far); (first | assumption | omega | (simp <;> omega))) | ((with_reducible apply Box.one_set); (with_reducible assumption)) | ((with_reducible apply Box.two_set); (with_reducible assumption)) | ((with_reducible apply Box.three_set); (with_reducible assumption)) | (with_reducible apply Box.set) | (simp only [List.size_toArray, List.length_cons, List.length_nil, Array.size_setIfInBounds] <;> omega))), by (repeat (first | (with_reducible assumption) | (with_reducible exact box_new _ _ _) | ((with_reducible apply box_at); (first | (with_reducible rfl) | (simp <;> omega))) | (with_reducible apply Box.drew) | (with_reducible apply Box.drewN) | (with_reducible apply Box.near) | (with_reducible apply Box.alloc) | ((with_reducible apply box_far); (first | assumption | omega | (simp <;> omega))) | ((with_reducible apply Box.one_set); (with_reducible assumption)) | ((with_reducible apply Box.two_set); (with_reducible assumption)) | ((with_reducible apply Box.three_set); (with_reducible assumption)) | (with_reducible apply Box.set) | (simp only [List.size_toArray, List.length_cons, List.length_nil, Array.size_setIfInBounds] <;> omega))), F5.out, Hn.out⟩
            · have tE : (E == 1) = false := by simpa using hE
              have Hn := Lib.hid (Hn2.out hE)
              clear Hn1 Hn2
              go_wp2
              go_roundg (N - (j + 1))
              case measure => omega
              case rel => exact ⟨j + 1, X', q', c', n', _, by omega, by omega, by go_num, rfl, by (repeat (first | (with_reducible exact Below.refl _ _) | (with_reducible assumption) | (with_reducible refine Near.up _ ?_) | (with_reducible refine Below.drew ?_) | (with_reducible refine below_alloc_on ?_ _) | (with_reducible refine below_set_on ?_ (by first | (simp; done) | (simp; omega) | omega) _))), by (repeat (first | (with_reducible assumption) | (with_reducible exact box_new _ _ _) | ((with_reducible apply box_at); (first | (with_reducible rfl) | (simp <;> omega))) | (with_reducible apply Box.drew) | (with_reducible apply Box.drewN) | (with_reducible apply Box.near) | (with_reducible apply Box.alloc) | ((with_reducible apply box_far); (first | assumption | omega | (simp <;> omega))) | ((with_reducible apply Box.one_set); (with_reducible assumption)) | ((with_reducible apply Box.two_set); (with_reducible assumption)) | ((with_reducible apply Box.three_set); (with_reducible assumption)) | (with_reducible apply Box.set) | (simp only [List.size_toArray, List.length_cons, List.length_nil, Array.size_setIfInBounds] <;> omega))), by (repeat (first | (with_reducible assumption) | (with_reducible exact box_new _ _ _) | ((with_reducible apply box_at); (first | (with_reducible rfl) | (simp <;> omega))) | (with_reducible apply Box.drew) | (with_reducible apply Box.drewN) | (with_reducible apply Box.near) | (with_reducible apply Box.alloc) | ((with_reducible apply box_far); (first | assumption | omega | (simp <;> omega))) | ((with_reducible apply Box.one_set); (with_reducible assumption)) | ((with_reducible apply Box.two_set); (with_reducible assumption)) | ((with_reducible apply Box.three_set); (with_reducible assumption)) | (with_reducible apply Box.set) | (simp only [List.size_toArray, List.length_cons, List.length_nil, Array.size_setIfInBounds] <;> omega))), by (repeat (first | (with_reducible assumption) | (with_reducible exact box_new _ _ _) | ((with_reducible apply box_at); (first | (with_reducible rfl) | (simp <;> omega))) | (with_reducible apply Box.drew) | (with_reducible apply Box.drewN) | (with_reducible apply Box.near) | (with_reducible apply Box.alloc) | ((with_reducible apply box_far); (first | assumption | omega | (simp <;> omega))) | ((with_reducible apply Box.one_set); (with_reducible assumption)) | ((with_reducible apply Box.two_set); (with_reducible assumption)) | ((with_reducible apply Box.three_set); (with_reducible assumption)) | (with_reducible apply Box.set) | (simp only [List.size_toArray, List.length_cons, List.length_nil, Array.size_setIfInBounds] <;> omega))), F5.out, Hn.out⟩
          · obtain rfl : j = N := by omega
            clear hlt hj
            obtain ⟨l_ph, c_ph, f_ph⟩ := id X_ph
            obtain ⟨l_pe, c_pe, f_pe⟩ := id X_pe
            obtain ⟨l_pd, c_pd, f_pd⟩ := id X_pd
            obtain ⟨l_pg, c_pg, f_pg⟩ := id X_pg
            go_wp2_with (fail)
            refine (HG.out _).mono ?_
            rintro e w8 ⟨rfl, hb⟩
            replace A := below_call A hb
            clear l_ph c_ph f_ph
            replace X_ph := X_ph.below hb
            clear l_pe c_pe f_pe
            replace X_pe := X_pe.below hb
            clear l_pd c_pd f_pd
            replace X_pd := X_pd.below hb
            clear l_pg c_pg f_pg
            replace X_pg := X_pg.below hb
            clear hb
            obtain ⟨l_ph, c_ph, f_ph⟩ := id X_ph
            obtain ⟨l_pe, c_pe, f_pe⟩ := id X_pe
            obtain ⟨l_pd, c_pd, f_pd⟩ := id X_pd
            obtain ⟨l_pg, c_pg, f_pg⟩ := id X_pg
            go_upto_region 24 with (fail)
            have z_pt : W.heap.size ≤ w8.heap.size := by (have h9 := A.size; omega)
            have n_ph_pt : ¬ ph = w8.heap.size := by omega
            have n_pt_ph : ¬ w8.heap.size = ph := by omega
            have n_pe_pt : ¬ pe = w8.heap.size := by omega
            have n_pt_pe : ¬ w8.heap.size = pe := by omega
            have n_pd_pt : ¬ pd = w8.heap.size := by omega
            have n_pt_pd : ¬ w8.heap.size = pd := by omega
            have n_pg_pt : ¬ pg = w8.heap.size := by omega
            have n_pt_pg : ¬ w8.heap.size = pg := by omega
            refine at_world (fun V => Below W.heap.size W V ∧ Box V (ph) #[.int .u8 h0, .int .u8 h1, .int .u8 h2] ∧ Box V (pe) #[.int .i64 e0, .int .i64 e1, .int .i64 e2, .int .i64 e3, .int .i64 e4, .int .i64 e5, .int .i64 e6, .int .i64 e7] ∧ Box V (pd) #[.int .i64 (e0 + 1), .int .i64 d1, .int .i64 d2, .int .i64 d3, .int .i64 d4, .int .i64 d5, .int .i64 d6, .int .i64 d7] ∧ Box V (pg) #[.string X, .string S, .bool q, .int .i64 0, .string c, .int .i64 n] ∧ Box V (w8.heap.size) #[.int .i64 t0, .int .i64 t1, .int .i64 t2, .int .i64 t3, .int .i64 t4, .int .i64 t5, .int .i64 t6, .int .i64 t7]) ⟨by (repeat (first | (with_reducible exact Below.refl _ _) | (with_reducible assumption) | (with_reducible refine Near.up _ ?_) | (with_reducible refine Below.drew ?_) | (with_reducible refine below_alloc_on ?_ _) | (with_reducible refine below_set_on ?_ (by first | (simp; done) | (simp; omega) | omega) _))), box_cast (by (repeat (first | (with_reducible assumption) | (with_reducible exact box_new _ _ _) | ((with_reducible apply box_at); (first | (with_reducible rfl) | (simp <;> omega))) | (with_reducible apply Box.drew) | (with_reducible apply Box.drewN) | (with_reducible apply Box.near) | (with_reducible apply Box.alloc) | ((with_reducible apply box_far); (first | assumption | omega | (simp <;> omega))) | ((with_reducible apply Box.one_set); (with_reducible assumption)) | ((with_reducible apply Box.two_set); (with_reducible assumption)) | ((with_reducible apply Box.three_set); (with_reducible assumption)) | (with_reducible apply Box.set) | (simp only [List.size_toArray, List.length_cons, List.length_nil, Array.size_setIfInBounds] <;> omega)))) (by first | rfl | simp), box_cast (by (repeat (first | (with_reducible assumption) | (with_reducible exact box_new _ _ _) | ((with_reducible apply box_at); (first | (with_reducible rfl) | (simp <;> omega))) | (with_reducible apply Box.drew) | (with_reducible apply Box.drewN) | (with_reducible apply Box.near) | (with_reducible apply Box.alloc) | ((with_reducible apply box_far); (first | assumption | omega | (simp <;> omega))) | ((with_reducible apply Box.one_set); (with_reducible assumption)) | ((with_reducible apply Box.two_set); (with_reducible assumption)) | ((with_reducible apply Box.three_set); (with_reducible assumption)) | (with_reducible apply Box.set) | (simp only [List.size_toArray, List.length_cons, List.length_nil, Array.size_setIfInBounds] <;> omega)))) (by first | rfl | simp), box_cast (by (repeat (first | (with_reducible assumption) | (with_reducible exact box_new _ _ _) | ((with_reducible apply box_at); (first | (with_reducible rfl) | (simp <;> omega))) | (with_reducible apply Box.drew) | (with_reducible apply Box.drewN) | (with_reducible apply Box.near) | (with_reducible apply Box.alloc) | ((with_reducible apply box_far); (first | assumption | omega | (simp <;> omega))) | ((with_reducible apply Box.one_set); (with_reducible assumption)) | ((with_reducible apply Box.two_set); (with_reducible assumption)) | ((with_reducible apply Box.three_set); (with_reducible assumption)) | (with_reducible apply Box.set) | (simp only [List.size_toArray, List.length_cons, List.length_nil, Array.size_setIfInBounds] <;> omega)))) (by first | rfl | simp), box_cast (by (repeat (first | (with_reducible assumption) | (with_reducible exact box_new _ _ _) | ((with_reducible apply box_at); (first | (with_reducible rfl) | (simp <;> omega))) | (with_reducible apply Box.drew) | (with_reducible apply Box.drewN) | (with_reducible apply Box.near) | (with_reducible apply Box.alloc) | ((with_reducible apply box_far); (first | assumption | omega | (simp <;> omega))) | ((with_reducible apply Box.one_set); (with_reducible assumption)) | ((with_reducible apply Box.two_set); (with_reducible assumption)) | ((with_reducible apply Box.three_set); (with_reducible assumption)) | (with_reducible apply Box.set) | (simp only [List.size_toArray, List.length_cons, List.length_nil, Array.size_setIfInBounds] <;> omega)))) (by first | rfl | simp), box_cast (by (repeat (first | (with_reducible assumption) | (with_reducible exact box_new _ _ _) | ((with_reducible apply box_at); (first | (with_reducible rfl) | (simp <;> omega))) | (with_reducible apply Box.drew) | (with_reducible apply Box.drewN) | (with_reducible apply Box.near) | (with_reducible apply Box.alloc) | ((with_reducible apply box_far); (first | assumption | omega | (simp <;> omega))) | ((with_reducible apply Box.one_set); (with_reducible assumption)) | ((with_reducible apply Box.two_set); (with_reducible assumption)) | ((with_reducible apply Box.three_set); (with_reducible assumption)) | (with_reducible apply Box.set) | (simp only [List.size_toArray, List.length_cons, List.length_nil, Array.size_setIfInBounds] <;> omega)))) (by first | rfl | simp)⟩ ?_
            clear A X_ph l_ph c_ph f_ph X_pe l_pe c_pe f_pe X_pd l_pd c_pd f_pd X_pg l_pg c_pg f_pg
            rintro w9 ⟨A, X_ph, X_pe, X_pd, X_pg, X_pt⟩
            obtain ⟨pt, h_pt⟩ : ∃ pt, w8.heap.size = pt := ⟨_, rfl⟩
            have o_pt : W.heap.size ≤ pt := by omega
            rw [h_pt] at X_pt n_ph_pt n_pt_ph n_pe_pt n_pt_pe n_pd_pt n_pt_pd n_pg_pt n_pt_pg
            simp only [h_pt]
            clear h_pt z_pt
            obtain ⟨l_ph, c_ph, f_ph⟩ := id X_ph
            obtain ⟨l_pe, c_pe, f_pe⟩ := id X_pe
            obtain ⟨l_pd, c_pd, f_pd⟩ := id X_pd
            obtain ⟨l_pg, c_pg, f_pg⟩ := id X_pg
            obtain ⟨l_pt, c_pt, f_pt⟩ := id X_pt
            clear l_ph c_ph f_ph X_ph l_pe c_pe f_pe l_pd c_pd f_pd l_pg c_pg f_pg l_pt c_pt f_pt
            obtain ⟨hz, hst⟩ := hst
            rcases hst with ⟨hq, hc, hr, hx, n0, n1⟩ | ⟨hq, hc, hn, ⟨hr, hX⟩ | ⟨hr, hx⟩⟩
            · rw [hq, hc] at X_pg
              subst hr
              clear hq hc
              have HC := Lib.hid (show ∀ w, Calls Try.prog 10 #[.agg #[.string X, .string S, .bool true, .int .i64 0, .string D, .int .i64 n], .string T] w fun x w' => x = .returned (.agg #[.string T, .string S, .bool false, .int .i64 0, .string ⟨#[]⟩, .int .i64 0]) ∧ Below w.heap.size w w' from fun w => by
                have h := fl_cut_busy X S 0 D n T w
                rw [fst_all T (by have := HTs.out; omega)] at h
                exact h)
              rcases HT.out with ⟨hi, hg⟩ | ⟨hi, hne, hg, g0, g5, g6, g7⟩ | ⟨hi, hne⟩
              · subst hi
                obtain ⟨m0, p0, p1, p2, HB⟩ := HLast.out T hg HTs.out
                have HB := Lib.hid HB
                have q1 : (e0 == e0 + 1) = false := by simp; omega
                have q2 : (e0 + 1 == e0) = false := by simp; omega
                obtain ⟨l_pe, c_pe, f_pe⟩ := id X_pe
                obtain ⟨l_pd, c_pd, f_pd⟩ := id X_pd
                obtain ⟨l_pg, c_pg, f_pg⟩ := id X_pg
                obtain ⟨l_pt, c_pt, f_pt⟩ := id X_pt
                go_wp2_with (fail)
                refine (HC.out _).mono ?_
                rintro e w10 ⟨rfl, hb⟩
                replace A := below_call A hb
                clear l_pe c_pe f_pe
                replace X_pe := X_pe.below hb
                clear l_pd c_pd f_pd
                replace X_pd := X_pd.below hb
                clear l_pg c_pg f_pg
                replace X_pg := X_pg.below hb
                clear l_pt c_pt f_pt
                replace X_pt := X_pt.below hb
                clear hb
                obtain ⟨l_pe, c_pe, f_pe⟩ := id X_pe
                obtain ⟨l_pd, c_pd, f_pd⟩ := id X_pd
                obtain ⟨l_pg, c_pg, f_pg⟩ := id X_pg
                obtain ⟨l_pt, c_pt, f_pt⟩ := id X_pt
                go_wp2_with (fail)
                refine (HB.out _).mono ?_
                rintro e w11 ⟨rfl, hb⟩
                replace A := below_call A hb
                clear l_pe c_pe f_pe
                replace X_pe := X_pe.below hb
                clear l_pd c_pd f_pd
                replace X_pd := X_pd.below hb
                clear l_pg c_pg f_pg
                replace X_pg := X_pg.below hb
                clear l_pt c_pt f_pt
                replace X_pt := X_pt.below hb
                clear hb
                obtain ⟨l_pe, c_pe, f_pe⟩ := id X_pe
                obtain ⟨l_pd, c_pd, f_pd⟩ := id X_pd
                obtain ⟨l_pg, c_pg, f_pg⟩ := id X_pg
                obtain ⟨l_pt, c_pt, f_pt⟩ := id X_pt
                go_upto_region 27 with (fail)
                have z_pc : W.heap.size ≤ w11.heap.size := by (have h9 := A.size; omega)
                have n_pe_pc : ¬ pe = w11.heap.size := by omega
                have n_pc_pe : ¬ w11.heap.size = pe := by omega
                have n_pd_pc : ¬ pd = w11.heap.size := by omega
                have n_pc_pd : ¬ w11.heap.size = pd := by omega
                have n_pg_pc : ¬ pg = w11.heap.size := by omega
                have n_pc_pg : ¬ w11.heap.size = pg := by omega
                have n_pt_pc : ¬ pt = w11.heap.size := by omega
                have n_pc_pt : ¬ w11.heap.size = pt := by omega
                refine at_world (fun V => Below W.heap.size W V ∧ Box V (pe) #[.int .i64 e0, .int .i64 e1, .int .i64 e2, .int .i64 e3, .int .i64 e4, .int .i64 e5, .int .i64 e6, .int .i64 e7] ∧ Box V (pd) #[.int .i64 (e0 + 1), .int .i64 d1, .int .i64 d2, .int .i64 d3, .int .i64 d4, .int .i64 d5, .int .i64 d6, .int .i64 d7] ∧ Box V (pg) #[.string X, .string S, .bool true, .int .i64 0, .string D, .int .i64 n] ∧ Box V (pt) #[.int .i64 t0, .int .i64 t1, .int .i64 t2, .int .i64 t3, .int .i64 t4, .int .i64 t5, .int .i64 t6, .int .i64 t7] ∧ Box V (w11.heap.size) #[.int .i64 m0, .int .i64 p0, .int .i64 p1, .int .i64 p2, .int .i64 e5, .int .i64 e6, .int .i64 e7, .int .i64 e0, .int .i64 1, .bool false]) ⟨by (repeat (first | (with_reducible exact Below.refl _ _) | (with_reducible assumption) | (with_reducible refine Near.up _ ?_) | (with_reducible refine Below.drew ?_) | (with_reducible refine below_alloc_on ?_ _) | (with_reducible refine below_set_on ?_ (by first | (simp; done) | (simp; omega) | omega) _))), box_cast (by (repeat (first | (with_reducible assumption) | (with_reducible exact box_new _ _ _) | ((with_reducible apply box_at); (first | (with_reducible rfl) | (simp <;> omega))) | (with_reducible apply Box.drew) | (with_reducible apply Box.drewN) | (with_reducible apply Box.near) | (with_reducible apply Box.alloc) | ((with_reducible apply box_far); (first | assumption | omega | (simp <;> omega))) | ((with_reducible apply Box.one_set); (with_reducible assumption)) | ((with_reducible apply Box.two_set); (with_reducible assumption)) | ((with_reducible apply Box.three_set); (with_reducible assumption)) | (with_reducible apply Box.set) | (simp only [List.size_toArray, List.length_cons, List.length_nil, Array.size_setIfInBounds] <;> omega)))) (by first | rfl | simp), box_cast (by (repeat (first | (with_reducible assumption) | (with_reducible exact box_new _ _ _) | ((with_reducible apply box_at); (first | (with_reducible rfl) | (simp <;> omega))) | (with_reducible apply Box.drew) | (with_reducible apply Box.drewN) | (with_reducible apply Box.near) | (with_reducible apply Box.alloc) | ((with_reducible apply box_far); (first | assumption | omega | (simp <;> omega))) | ((with_reducible apply Box.one_set); (with_reducible assumption)) | ((with_reducible apply Box.two_set); (with_reducible assumption)) | ((with_reducible apply Box.three_set); (with_reducible assumption)) | (with_reducible apply Box.set) | (simp only [List.size_toArray, List.length_cons, List.length_nil, Array.size_setIfInBounds] <;> omega)))) (by first | rfl | simp), box_cast (by (repeat (first | (with_reducible assumption) | (with_reducible exact box_new _ _ _) | ((with_reducible apply box_at); (first | (with_reducible rfl) | (simp <;> omega))) | (with_reducible apply Box.drew) | (with_reducible apply Box.drewN) | (with_reducible apply Box.near) | (with_reducible apply Box.alloc) | ((with_reducible apply box_far); (first | assumption | omega | (simp <;> omega))) | ((with_reducible apply Box.one_set); (with_reducible assumption)) | ((with_reducible apply Box.two_set); (with_reducible assumption)) | ((with_reducible apply Box.three_set); (with_reducible assumption)) | (with_reducible apply Box.set) | (simp only [List.size_toArray, List.length_cons, List.length_nil, Array.size_setIfInBounds] <;> omega)))) (by first | rfl | simp), box_cast (by (repeat (first | (with_reducible assumption) | (with_reducible exact box_new _ _ _) | ((with_reducible apply box_at); (first | (with_reducible rfl) | (simp <;> omega))) | (with_reducible apply Box.drew) | (with_reducible apply Box.drewN) | (with_reducible apply Box.near) | (with_reducible apply Box.alloc) | ((with_reducible apply box_far); (first | assumption | omega | (simp <;> omega))) | ((with_reducible apply Box.one_set); (with_reducible assumption)) | ((with_reducible apply Box.two_set); (with_reducible assumption)) | ((with_reducible apply Box.three_set); (with_reducible assumption)) | (with_reducible apply Box.set) | (simp only [List.size_toArray, List.length_cons, List.length_nil, Array.size_setIfInBounds] <;> omega)))) (by first | rfl | simp), box_cast (by (repeat (first | (with_reducible assumption) | (with_reducible exact box_new _ _ _) | ((with_reducible apply box_at); (first | (with_reducible rfl) | (simp <;> omega))) | (with_reducible apply Box.drew) | (with_reducible apply Box.drewN) | (with_reducible apply Box.near) | (with_reducible apply Box.alloc) | ((with_reducible apply box_far); (first | assumption | omega | (simp <;> omega))) | ((with_reducible apply Box.one_set); (with_reducible assumption)) | ((with_reducible apply Box.two_set); (with_reducible assumption)) | ((with_reducible apply Box.three_set); (with_reducible assumption)) | (with_reducible apply Box.set) | (simp only [List.size_toArray, List.length_cons, List.length_nil, Array.size_setIfInBounds] <;> omega)))) (by first | rfl | simp)⟩ ?_
                clear A X_pe l_pe c_pe f_pe X_pd l_pd c_pd f_pd X_pg l_pg c_pg f_pg X_pt l_pt c_pt f_pt
                rintro w12 ⟨A, X_pe, X_pd, X_pg, X_pt, X_pc⟩
                obtain ⟨pc, h_pc⟩ : ∃ pc, w11.heap.size = pc := ⟨_, rfl⟩
                have o_pc : W.heap.size ≤ pc := by omega
                rw [h_pc] at X_pc n_pe_pc n_pc_pe n_pd_pc n_pc_pd n_pg_pc n_pc_pg n_pt_pc n_pc_pt
                simp only [h_pc]
                clear h_pc z_pc
                obtain ⟨l_pe, c_pe, f_pe⟩ := id X_pe
                obtain ⟨l_pd, c_pd, f_pd⟩ := id X_pd
                obtain ⟨l_pg, c_pg, f_pg⟩ := id X_pg
                obtain ⟨l_pt, c_pt, f_pt⟩ := id X_pt
                obtain ⟨l_pc, c_pc, f_pc⟩ := id X_pc
                go_wp2_with (fail)
                refine (law40_awake _).mono ?_
                rintro e w13 ⟨rfl, hb⟩
                replace A := below_call A hb
                clear l_pe c_pe f_pe
                replace X_pe := X_pe.below hb
                clear l_pd c_pd f_pd
                replace X_pd := X_pd.below hb
                clear l_pg c_pg f_pg
                replace X_pg := X_pg.below hb
                clear l_pt c_pt f_pt
                replace X_pt := X_pt.below hb
                clear l_pc c_pc f_pc
                replace X_pc := X_pc.below hb
                clear hb
                obtain ⟨l_pe, c_pe, f_pe⟩ := id X_pe
                obtain ⟨l_pd, c_pd, f_pd⟩ := id X_pd
                obtain ⟨l_pg, c_pg, f_pg⟩ := id X_pg
                obtain ⟨l_pt, c_pt, f_pt⟩ := id X_pt
                obtain ⟨l_pc, c_pc, f_pc⟩ := id X_pc
                go_wp2
                all_goals go_ret
                all_goals exact ⟨rfl, A⟩
              · subst hi
                obtain ⟨m0, p0, p1, p2, HB⟩ := HNext.out T hg g0 g5 g6 g7 HTs.out
                have HB := Lib.hid HB
                have q1 : (e0 == e0 + 1) = false := by simp; omega
                have q2 : (e0 + 1 == e0) = false := by simp; omega
                obtain ⟨l_pe, c_pe, f_pe⟩ := id X_pe
                obtain ⟨l_pd, c_pd, f_pd⟩ := id X_pd
                obtain ⟨l_pg, c_pg, f_pg⟩ := id X_pg
                obtain ⟨l_pt, c_pt, f_pt⟩ := id X_pt
                go_wp2_with (fail)
                refine (HC.out _).mono ?_
                rintro e w10 ⟨rfl, hb⟩
                replace A := below_call A hb
                clear l_pe c_pe f_pe
                replace X_pe := X_pe.below hb
                clear l_pd c_pd f_pd
                replace X_pd := X_pd.below hb
                clear l_pg c_pg f_pg
                replace X_pg := X_pg.below hb
                clear l_pt c_pt f_pt
                replace X_pt := X_pt.below hb
                clear hb
                obtain ⟨l_pe, c_pe, f_pe⟩ := id X_pe
                obtain ⟨l_pd, c_pd, f_pd⟩ := id X_pd
                obtain ⟨l_pg, c_pg, f_pg⟩ := id X_pg
                obtain ⟨l_pt, c_pt, f_pt⟩ := id X_pt
                go_wp2_with (fail)
                refine (HB.out _).mono ?_
                rintro e w11 ⟨rfl, hb⟩
                replace A := below_call A hb
                clear l_pe c_pe f_pe
                replace X_pe := X_pe.below hb
                clear l_pd c_pd f_pd
                replace X_pd := X_pd.below hb
                clear l_pg c_pg f_pg
                replace X_pg := X_pg.below hb
                clear l_pt c_pt f_pt
                replace X_pt := X_pt.below hb
                clear hb
                obtain ⟨l_pe, c_pe, f_pe⟩ := id X_pe
                obtain ⟨l_pd, c_pd, f_pd⟩ := id X_pd
                obtain ⟨l_pg, c_pg, f_pg⟩ := id X_pg
                obtain ⟨l_pt, c_pt, f_pt⟩ := id X_pt
                go_upto_region 27 with (fail)
                have z_pc : W.heap.size ≤ w11.heap.size := by (have h9 := A.size; omega)
                have n_pe_pc : ¬ pe = w11.heap.size := by omega
                have n_pc_pe : ¬ w11.heap.size = pe := by omega
                have n_pd_pc : ¬ pd = w11.heap.size := by omega
                have n_pc_pd : ¬ w11.heap.size = pd := by omega
                have n_pg_pc : ¬ pg = w11.heap.size := by omega
                have n_pc_pg : ¬ w11.heap.size = pg := by omega
                have n_pt_pc : ¬ pt = w11.heap.size := by omega
                have n_pc_pt : ¬ w11.heap.size = pt := by omega
                refine at_world (fun V => Below W.heap.size W V ∧ Box V (pe) #[.int .i64 e0, .int .i64 e1, .int .i64 e2, .int .i64 e3, .int .i64 e4, .int .i64 e5, .int .i64 e6, .int .i64 e7] ∧ Box V (pd) #[.int .i64 (e0 + 1), .int .i64 d1, .int .i64 d2, .int .i64 d3, .int .i64 d4, .int .i64 d5, .int .i64 d6, .int .i64 d7] ∧ Box V (pg) #[.string X, .string S, .bool true, .int .i64 0, .string D, .int .i64 n] ∧ Box V (pt) #[.int .i64 t0, .int .i64 t1, .int .i64 t2, .int .i64 t3, .int .i64 t4, .int .i64 t5, .int .i64 t6, .int .i64 t7] ∧ Box V (w11.heap.size) #[.int .i64 m0, .int .i64 p0, .int .i64 p1, .int .i64 p2, .int .i64 d5, .int .i64 d6, .int .i64 d7, .int .i64 (e0 + 1), .int .i64 0, .bool false]) ⟨by (repeat (first | (with_reducible exact Below.refl _ _) | (with_reducible assumption) | (with_reducible refine Near.up _ ?_) | (with_reducible refine Below.drew ?_) | (with_reducible refine below_alloc_on ?_ _) | (with_reducible refine below_set_on ?_ (by first | (simp; done) | (simp; omega) | omega) _))), box_cast (by (repeat (first | (with_reducible assumption) | (with_reducible exact box_new _ _ _) | ((with_reducible apply box_at); (first | (with_reducible rfl) | (simp <;> omega))) | (with_reducible apply Box.drew) | (with_reducible apply Box.drewN) | (with_reducible apply Box.near) | (with_reducible apply Box.alloc) | ((with_reducible apply box_far); (first | assumption | omega | (simp <;> omega))) | ((with_reducible apply Box.one_set); (with_reducible assumption)) | ((with_reducible apply Box.two_set); (with_reducible assumption)) | ((with_reducible apply Box.three_set); (with_reducible assumption)) | (with_reducible apply Box.set) | (simp only [List.size_toArray, List.length_cons, List.length_nil, Array.size_setIfInBounds] <;> omega)))) (by first | rfl | simp), box_cast (by (repeat (first | (with_reducible assumption) | (with_reducible exact box_new _ _ _) | ((with_reducible apply box_at); (first | (with_reducible rfl) | (simp <;> omega))) | (with_reducible apply Box.drew) | (with_reducible apply Box.drewN) | (with_reducible apply Box.near) | (with_reducible apply Box.alloc) | ((with_reducible apply box_far); (first | assumption | omega | (simp <;> omega))) | ((with_reducible apply Box.one_set); (with_reducible assumption)) | ((with_reducible apply Box.two_set); (with_reducible assumption)) | ((with_reducible apply Box.three_set); (with_reducible assumption)) | (with_reducible apply Box.set) | (simp only [List.size_toArray, List.length_cons, List.length_nil, Array.size_setIfInBounds] <;> omega)))) (by first | rfl | simp), box_cast (by (repeat (first | (with_reducible assumption) | (with_reducible exact box_new _ _ _) | ((with_reducible apply box_at); (first | (with_reducible rfl) | (simp <;> omega))) | (with_reducible apply Box.drew) | (with_reducible apply Box.drewN) | (with_reducible apply Box.near) | (with_reducible apply Box.alloc) | ((with_reducible apply box_far); (first | assumption | omega | (simp <;> omega))) | ((with_reducible apply Box.one_set); (with_reducible assumption)) | ((with_reducible apply Box.two_set); (with_reducible assumption)) | ((with_reducible apply Box.three_set); (with_reducible assumption)) | (with_reducible apply Box.set) | (simp only [List.size_toArray, List.length_cons, List.length_nil, Array.size_setIfInBounds] <;> omega)))) (by first | rfl | simp), box_cast (by (repeat (first | (with_reducible assumption) | (with_reducible exact box_new _ _ _) | ((with_reducible apply box_at); (first | (with_reducible rfl) | (simp <;> omega))) | (with_reducible apply Box.drew) | (with_reducible apply Box.drewN) | (with_reducible apply Box.near) | (with_reducible apply Box.alloc) | ((with_reducible apply box_far); (first | assumption | omega | (simp <;> omega))) | ((with_reducible apply Box.one_set); (with_reducible assumption)) | ((with_reducible apply Box.two_set); (with_reducible assumption)) | ((with_reducible apply Box.three_set); (with_reducible assumption)) | (with_reducible apply Box.set) | (simp only [List.size_toArray, List.length_cons, List.length_nil, Array.size_setIfInBounds] <;> omega)))) (by first | rfl | simp), box_cast (by (repeat (first | (with_reducible assumption) | (with_reducible exact box_new _ _ _) | ((with_reducible apply box_at); (first | (with_reducible rfl) | (simp <;> omega))) | (with_reducible apply Box.drew) | (with_reducible apply Box.drewN) | (with_reducible apply Box.near) | (with_reducible apply Box.alloc) | ((with_reducible apply box_far); (first | assumption | omega | (simp <;> omega))) | ((with_reducible apply Box.one_set); (with_reducible assumption)) | ((with_reducible apply Box.two_set); (with_reducible assumption)) | ((with_reducible apply Box.three_set); (with_reducible assumption)) | (with_reducible apply Box.set) | (simp only [List.size_toArray, List.length_cons, List.length_nil, Array.size_setIfInBounds] <;> omega)))) (by first | rfl | simp)⟩ ?_
                clear A X_pe l_pe c_pe f_pe X_pd l_pd c_pd f_pd X_pg l_pg c_pg f_pg X_pt l_pt c_pt f_pt
                rintro w12 ⟨A, X_pe, X_pd, X_pg, X_pt, X_pc⟩
                obtain ⟨pc, h_pc⟩ : ∃ pc, w11.heap.size = pc := ⟨_, rfl⟩
                have o_pc : W.heap.size ≤ pc := by omega
                rw [h_pc] at X_pc n_pe_pc n_pc_pe n_pd_pc n_pc_pd n_pg_pc n_pc_pg n_pt_pc n_pc_pt
                simp only [h_pc]
                clear h_pc z_pc
                obtain ⟨l_pe, c_pe, f_pe⟩ := id X_pe
                obtain ⟨l_pd, c_pd, f_pd⟩ := id X_pd
                obtain ⟨l_pg, c_pg, f_pg⟩ := id X_pg
                obtain ⟨l_pt, c_pt, f_pt⟩ := id X_pt
                obtain ⟨l_pc, c_pc, f_pc⟩ := id X_pc
                go_wp2_with (fail)
                refine (law40_awake _).mono ?_
                rintro e w13 ⟨rfl, hb⟩
                replace A := below_call A hb
                clear l_pe c_pe f_pe
                replace X_pe := X_pe.below hb
                clear l_pd c_pd f_pd
                replace X_pd := X_pd.below hb
                clear l_pg c_pg f_pg
                replace X_pg := X_pg.below hb
                clear l_pt c_pt f_pt
                replace X_pt := X_pt.below hb
                clear l_pc c_pc f_pc
                replace X_pc := X_pc.below hb
                clear hb
                obtain ⟨l_pe, c_pe, f_pe⟩ := id X_pe
                obtain ⟨l_pd, c_pd, f_pd⟩ := id X_pd
                obtain ⟨l_pg, c_pg, f_pg⟩ := id X_pg
                obtain ⟨l_pt, c_pt, f_pt⟩ := id X_pt
                obtain ⟨l_pc, c_pc, f_pc⟩ := id X_pc
                go_wp2
                all_goals go_ret
                all_goals exact ⟨rfl, A⟩
              · subst hi
                obtain ⟨l_pe, c_pe, f_pe⟩ := id X_pe
                obtain ⟨l_pd, c_pd, f_pd⟩ := id X_pd
                obtain ⟨l_pg, c_pg, f_pg⟩ := id X_pg
                obtain ⟨l_pt, c_pt, f_pt⟩ := id X_pt
                go_wp2_with (fail)
                refine (law40_awake _).mono ?_
                rintro e w10 ⟨rfl, hb⟩
                replace A := below_call A hb
                clear l_pe c_pe f_pe
                replace X_pe := X_pe.below hb
                clear l_pd c_pd f_pd
                replace X_pd := X_pd.below hb
                clear l_pg c_pg f_pg
                replace X_pg := X_pg.below hb
                clear l_pt c_pt f_pt
                replace X_pt := X_pt.below hb
                clear hb
                obtain ⟨l_pe, c_pe, f_pe⟩ := id X_pe
                obtain ⟨l_pd, c_pd, f_pd⟩ := id X_pd
                obtain ⟨l_pg, c_pg, f_pg⟩ := id X_pg
                obtain ⟨l_pt, c_pt, f_pt⟩ := id X_pt
                go_wp2
                all_goals go_ret
                all_goals exact ⟨rfl, A⟩
            · rw [hq, hc, hn, hX] at X_pg
              subst hr
              clear hq hc hn hX hz
              have HC := Lib.hid (show ∀ w, Calls Try.prog 10 #[.agg #[.string D, .string S, .bool false, .int .i64 0, .string ⟨#[]⟩, .int .i64 0], .string T] w fun x w' => x = .returned (.agg #[.string D, .string S, .bool false, .int .i64 0, .string ⟨#[]⟩, .int .i64 0]) ∧ Below w.heap.size w w' from fun w => fl_cut_idle D S 0 _ 0 T w)
              rcases HT.out with ⟨hi, hg⟩ | ⟨hi, hne, hg, g0, g5, g6, g7⟩ | ⟨hi, hne⟩
              · subst hi
                obtain ⟨m0, p0, p1, p2, HB⟩ := HNext.out D HDg.out.1 HDg.out.2.1 HDg.out.2.2.1 HDg.out.2.2.2.1 HDg.out.2.2.2.2 (by have := hD.out; omega)
                have HB := Lib.hid HB
                have q1 : (e0 == e0 + 1) = false := by simp; omega
                have q2 : (e0 + 1 == e0) = false := by simp; omega
                obtain ⟨l_pe, c_pe, f_pe⟩ := id X_pe
                obtain ⟨l_pd, c_pd, f_pd⟩ := id X_pd
                obtain ⟨l_pg, c_pg, f_pg⟩ := id X_pg
                obtain ⟨l_pt, c_pt, f_pt⟩ := id X_pt
                go_wp2_with (fail)
                refine (HC.out _).mono ?_
                rintro e w10 ⟨rfl, hb⟩
                replace A := below_call A hb
                clear l_pe c_pe f_pe
                replace X_pe := X_pe.below hb
                clear l_pd c_pd f_pd
                replace X_pd := X_pd.below hb
                clear l_pg c_pg f_pg
                replace X_pg := X_pg.below hb
                clear l_pt c_pt f_pt
                replace X_pt := X_pt.below hb
                clear hb
                obtain ⟨l_pe, c_pe, f_pe⟩ := id X_pe
                obtain ⟨l_pd, c_pd, f_pd⟩ := id X_pd
                obtain ⟨l_pg, c_pg, f_pg⟩ := id X_pg
                obtain ⟨l_pt, c_pt, f_pt⟩ := id X_pt
                go_wp2_with (fail)
                refine (HB.out _).mono ?_
                rintro e w11 ⟨rfl, hb⟩
                replace A := below_call A hb
                clear l_pe c_pe f_pe
                replace X_pe := X_pe.below hb
                clear l_pd c_pd f_pd
                replace X_pd := X_pd.below hb
                clear l_pg c_pg f_pg
                replace X_pg := X_pg.below hb
                clear l_pt c_pt f_pt
                replace X_pt := X_pt.below hb
                clear hb
                obtain ⟨l_pe, c_pe, f_pe⟩ := id X_pe
                obtain ⟨l_pd, c_pd, f_pd⟩ := id X_pd
                obtain ⟨l_pg, c_pg, f_pg⟩ := id X_pg
                obtain ⟨l_pt, c_pt, f_pt⟩ := id X_pt
                go_upto_region 27 with (fail)
                have z_pc : W.heap.size ≤ w11.heap.size := by (have h9 := A.size; omega)
                have n_pe_pc : ¬ pe = w11.heap.size := by omega
                have n_pc_pe : ¬ w11.heap.size = pe := by omega
                have n_pd_pc : ¬ pd = w11.heap.size := by omega
                have n_pc_pd : ¬ w11.heap.size = pd := by omega
                have n_pg_pc : ¬ pg = w11.heap.size := by omega
                have n_pc_pg : ¬ w11.heap.size = pg := by omega
                have n_pt_pc : ¬ pt = w11.heap.size := by omega
                have n_pc_pt : ¬ w11.heap.size = pt := by omega
                refine at_world (fun V => Below W.heap.size W V ∧ Box V (pe) #[.int .i64 e0, .int .i64 e1, .int .i64 e2, .int .i64 e3, .int .i64 e4, .int .i64 e5, .int .i64 e6, .int .i64 e7] ∧ Box V (pd) #[.int .i64 (e0 + 1), .int .i64 d1, .int .i64 d2, .int .i64 d3, .int .i64 d4, .int .i64 d5, .int .i64 d6, .int .i64 d7] ∧ Box V (pg) #[.string D, .string S, .bool false, .int .i64 0, .string ⟨#[]⟩, .int .i64 0] ∧ Box V (pt) #[.int .i64 t0, .int .i64 t1, .int .i64 t2, .int .i64 t3, .int .i64 t4, .int .i64 t5, .int .i64 t6, .int .i64 t7] ∧ Box V (w11.heap.size) #[.int .i64 m0, .int .i64 p0, .int .i64 p1, .int .i64 p2, .int .i64 d5, .int .i64 d6, .int .i64 d7, .int .i64 (e0 + 1), .int .i64 0, .bool false]) ⟨by (repeat (first | (with_reducible exact Below.refl _ _) | (with_reducible assumption) | (with_reducible refine Near.up _ ?_) | (with_reducible refine Below.drew ?_) | (with_reducible refine below_alloc_on ?_ _) | (with_reducible refine below_set_on ?_ (by first | (simp; done) | (simp; omega) | omega) _))), box_cast (by (repeat (first | (with_reducible assumption) | (with_reducible exact box_new _ _ _) | ((with_reducible apply box_at); (first | (with_reducible rfl) | (simp <;> omega))) | (with_reducible apply Box.drew) | (with_reducible apply Box.drewN) | (with_reducible apply Box.near) | (with_reducible apply Box.alloc) | ((with_reducible apply box_far); (first | assumption | omega | (simp <;> omega))) | ((with_reducible apply Box.one_set); (with_reducible assumption)) | ((with_reducible apply Box.two_set); (with_reducible assumption)) | ((with_reducible apply Box.three_set); (with_reducible assumption)) | (with_reducible apply Box.set) | (simp only [List.size_toArray, List.length_cons, List.length_nil, Array.size_setIfInBounds] <;> omega)))) (by first | rfl | simp), box_cast (by (repeat (first | (with_reducible assumption) | (with_reducible exact box_new _ _ _) | ((with_reducible apply box_at); (first | (with_reducible rfl) | (simp <;> omega))) | (with_reducible apply Box.drew) | (with_reducible apply Box.drewN) | (with_reducible apply Box.near) | (with_reducible apply Box.alloc) | ((with_reducible apply box_far); (first | assumption | omega | (simp <;> omega))) | ((with_reducible apply Box.one_set); (with_reducible assumption)) | ((with_reducible apply Box.two_set); (with_reducible assumption)) | ((with_reducible apply Box.three_set); (with_reducible assumption)) | (with_reducible apply Box.set) | (simp only [List.size_toArray, List.length_cons, List.length_nil, Array.size_setIfInBounds] <;> omega)))) (by first | rfl | simp), box_cast (by (repeat (first | (with_reducible assumption) | (with_reducible exact box_new _ _ _) | ((with_reducible apply box_at); (first | (with_reducible rfl) | (simp <;> omega))) | (with_reducible apply Box.drew) | (with_reducible apply Box.drewN) | (with_reducible apply Box.near) | (with_reducible apply Box.alloc) | ((with_reducible apply box_far); (first | assumption | omega | (simp <;> omega))) | ((with_reducible apply Box.one_set); (with_reducible assumption)) | ((with_reducible apply Box.two_set); (with_reducible assumption)) | ((with_reducible apply Box.three_set); (with_reducible assumption)) | (with_reducible apply Box.set) | (simp only [List.size_toArray, List.length_cons, List.length_nil, Array.size_setIfInBounds] <;> omega)))) (by first | rfl | simp), box_cast (by (repeat (first | (with_reducible assumption) | (with_reducible exact box_new _ _ _) | ((with_reducible apply box_at); (first | (with_reducible rfl) | (simp <;> omega))) | (with_reducible apply Box.drew) | (with_reducible apply Box.drewN) | (with_reducible apply Box.near) | (with_reducible apply Box.alloc) | ((with_reducible apply box_far); (first | assumption | omega | (simp <;> omega))) | ((with_reducible apply Box.one_set); (with_reducible assumption)) | ((with_reducible apply Box.two_set); (with_reducible assumption)) | ((with_reducible apply Box.three_set); (with_reducible assumption)) | (with_reducible apply Box.set) | (simp only [List.size_toArray, List.length_cons, List.length_nil, Array.size_setIfInBounds] <;> omega)))) (by first | rfl | simp), box_cast (by (repeat (first | (with_reducible assumption) | (with_reducible exact box_new _ _ _) | ((with_reducible apply box_at); (first | (with_reducible rfl) | (simp <;> omega))) | (with_reducible apply Box.drew) | (with_reducible apply Box.drewN) | (with_reducible apply Box.near) | (with_reducible apply Box.alloc) | ((with_reducible apply box_far); (first | assumption | omega | (simp <;> omega))) | ((with_reducible apply Box.one_set); (with_reducible assumption)) | ((with_reducible apply Box.two_set); (with_reducible assumption)) | ((with_reducible apply Box.three_set); (with_reducible assumption)) | (with_reducible apply Box.set) | (simp only [List.size_toArray, List.length_cons, List.length_nil, Array.size_setIfInBounds] <;> omega)))) (by first | rfl | simp)⟩ ?_
                clear A X_pe l_pe c_pe f_pe X_pd l_pd c_pd f_pd X_pg l_pg c_pg f_pg X_pt l_pt c_pt f_pt
                rintro w12 ⟨A, X_pe, X_pd, X_pg, X_pt, X_pc⟩
                obtain ⟨pc, h_pc⟩ : ∃ pc, w11.heap.size = pc := ⟨_, rfl⟩
                have o_pc : W.heap.size ≤ pc := by omega
                rw [h_pc] at X_pc n_pe_pc n_pc_pe n_pd_pc n_pc_pd n_pg_pc n_pc_pg n_pt_pc n_pc_pt
                simp only [h_pc]
                clear h_pc z_pc
                obtain ⟨l_pe, c_pe, f_pe⟩ := id X_pe
                obtain ⟨l_pd, c_pd, f_pd⟩ := id X_pd
                obtain ⟨l_pg, c_pg, f_pg⟩ := id X_pg
                obtain ⟨l_pt, c_pt, f_pt⟩ := id X_pt
                obtain ⟨l_pc, c_pc, f_pc⟩ := id X_pc
                go_wp2_with (fail)
                refine (law40_awake _).mono ?_
                rintro e w13 ⟨rfl, hb⟩
                replace A := below_call A hb
                clear l_pe c_pe f_pe
                replace X_pe := X_pe.below hb
                clear l_pd c_pd f_pd
                replace X_pd := X_pd.below hb
                clear l_pg c_pg f_pg
                replace X_pg := X_pg.below hb
                clear l_pt c_pt f_pt
                replace X_pt := X_pt.below hb
                clear l_pc c_pc f_pc
                replace X_pc := X_pc.below hb
                clear hb
                obtain ⟨l_pe, c_pe, f_pe⟩ := id X_pe
                obtain ⟨l_pd, c_pd, f_pd⟩ := id X_pd
                obtain ⟨l_pg, c_pg, f_pg⟩ := id X_pg
                obtain ⟨l_pt, c_pt, f_pt⟩ := id X_pt
                obtain ⟨l_pc, c_pc, f_pc⟩ := id X_pc
                go_wp2
                all_goals go_ret
                all_goals exact ⟨rfl, A⟩
              · subst hi
                obtain ⟨m0, p0, p1, p2, HB⟩ := HNext.out D HDg.out.1 HDg.out.2.1 HDg.out.2.2.1 HDg.out.2.2.2.1 HDg.out.2.2.2.2 (by have := hD.out; omega)
                have HB := Lib.hid HB
                have q1 : (e0 == e0 + 1) = false := by simp; omega
                have q2 : (e0 + 1 == e0) = false := by simp; omega
                obtain ⟨l_pe, c_pe, f_pe⟩ := id X_pe
                obtain ⟨l_pd, c_pd, f_pd⟩ := id X_pd
                obtain ⟨l_pg, c_pg, f_pg⟩ := id X_pg
                obtain ⟨l_pt, c_pt, f_pt⟩ := id X_pt
                go_wp2_with (fail)
                refine (HC.out _).mono ?_
                rintro e w10 ⟨rfl, hb⟩
                replace A := below_call A hb
                clear l_pe c_pe f_pe
                replace X_pe := X_pe.below hb
                clear l_pd c_pd f_pd
                replace X_pd := X_pd.below hb
                clear l_pg c_pg f_pg
                replace X_pg := X_pg.below hb
                clear l_pt c_pt f_pt
                replace X_pt := X_pt.below hb
                clear hb
                obtain ⟨l_pe, c_pe, f_pe⟩ := id X_pe
                obtain ⟨l_pd, c_pd, f_pd⟩ := id X_pd
                obtain ⟨l_pg, c_pg, f_pg⟩ := id X_pg
                obtain ⟨l_pt, c_pt, f_pt⟩ := id X_pt
                go_wp2_with (fail)
                refine (HB.out _).mono ?_
                rintro e w11 ⟨rfl, hb⟩
                replace A := below_call A hb
                clear l_pe c_pe f_pe
                replace X_pe := X_pe.below hb
                clear l_pd c_pd f_pd
                replace X_pd := X_pd.below hb
                clear l_pg c_pg f_pg
                replace X_pg := X_pg.below hb
                clear l_pt c_pt f_pt
                replace X_pt := X_pt.below hb
                clear hb
                obtain ⟨l_pe, c_pe, f_pe⟩ := id X_pe
                obtain ⟨l_pd, c_pd, f_pd⟩ := id X_pd
                obtain ⟨l_pg, c_pg, f_pg⟩ := id X_pg
                obtain ⟨l_pt, c_pt, f_pt⟩ := id X_pt
                go_upto_region 27 with (fail)
                have z_pc : W.heap.size ≤ w11.heap.size := by (have h9 := A.size; omega)
                have n_pe_pc : ¬ pe = w11.heap.size := by omega
                have n_pc_pe : ¬ w11.heap.size = pe := by omega
                have n_pd_pc : ¬ pd = w11.heap.size := by omega
                have n_pc_pd : ¬ w11.heap.size = pd := by omega
                have n_pg_pc : ¬ pg = w11.heap.size := by omega
                have n_pc_pg : ¬ w11.heap.size = pg := by omega
                have n_pt_pc : ¬ pt = w11.heap.size := by omega
                have n_pc_pt : ¬ w11.heap.size = pt := by omega
                refine at_world (fun V => Below W.heap.size W V ∧ Box V (pe) #[.int .i64 e0, .int .i64 e1, .int .i64 e2, .int .i64 e3, .int .i64 e4, .int .i64 e5, .int .i64 e6, .int .i64 e7] ∧ Box V (pd) #[.int .i64 (e0 + 1), .int .i64 d1, .int .i64 d2, .int .i64 d3, .int .i64 d4, .int .i64 d5, .int .i64 d6, .int .i64 d7] ∧ Box V (pg) #[.string D, .string S, .bool false, .int .i64 0, .string ⟨#[]⟩, .int .i64 0] ∧ Box V (pt) #[.int .i64 t0, .int .i64 t1, .int .i64 t2, .int .i64 t3, .int .i64 t4, .int .i64 t5, .int .i64 t6, .int .i64 t7] ∧ Box V (w11.heap.size) #[.int .i64 m0, .int .i64 p0, .int .i64 p1, .int .i64 p2, .int .i64 d5, .int .i64 d6, .int .i64 d7, .int .i64 (e0 + 1), .int .i64 0, .bool false]) ⟨by (repeat (first | (with_reducible exact Below.refl _ _) | (with_reducible assumption) | (with_reducible refine Near.up _ ?_) | (with_reducible refine Below.drew ?_) | (with_reducible refine below_alloc_on ?_ _) | (with_reducible refine below_set_on ?_ (by first | (simp; done) | (simp; omega) | omega) _))), box_cast (by (repeat (first | (with_reducible assumption) | (with_reducible exact box_new _ _ _) | ((with_reducible apply box_at); (first | (with_reducible rfl) | (simp <;> omega))) | (with_reducible apply Box.drew) | (with_reducible apply Box.drewN) | (with_reducible apply Box.near) | (with_reducible apply Box.alloc) | ((with_reducible apply box_far); (first | assumption | omega | (simp <;> omega))) | ((with_reducible apply Box.one_set); (with_reducible assumption)) | ((with_reducible apply Box.two_set); (with_reducible assumption)) | ((with_reducible apply Box.three_set); (with_reducible assumption)) | (with_reducible apply Box.set) | (simp only [List.size_toArray, List.length_cons, List.length_nil, Array.size_setIfInBounds] <;> omega)))) (by first | rfl | simp), box_cast (by (repeat (first | (with_reducible assumption) | (with_reducible exact box_new _ _ _) | ((with_reducible apply box_at); (first | (with_reducible rfl) | (simp <;> omega))) | (with_reducible apply Box.drew) | (with_reducible apply Box.drewN) | (with_reducible apply Box.near) | (with_reducible apply Box.alloc) | ((with_reducible apply box_far); (first | assumption | omega | (simp <;> omega))) | ((with_reducible apply Box.one_set); (with_reducible assumption)) | ((with_reducible apply Box.two_set); (with_reducible assumption)) | ((with_reducible apply Box.three_set); (with_reducible assumption)) | (with_reducible apply Box.set) | (simp only [List.size_toArray, List.length_cons, List.length_nil, Array.size_setIfInBounds] <;> omega)))) (by first | rfl | simp), box_cast (by (repeat (first | (with_reducible assumption) | (with_reducible exact box_new _ _ _) | ((with_reducible apply box_at); (first | (with_reducible rfl) | (simp <;> omega))) | (with_reducible apply Box.drew) | (with_reducible apply Box.drewN) | (with_reducible apply Box.near) | (with_reducible apply Box.alloc) | ((with_reducible apply box_far); (first | assumption | omega | (simp <;> omega))) | ((with_reducible apply Box.one_set); (with_reducible assumption)) | ((with_reducible apply Box.two_set); (with_reducible assumption)) | ((with_reducible apply Box.three_set); (with_reducible assumption)) | (with_reducible apply Box.set) | (simp only [List.size_toArray, List.length_cons, List.length_nil, Array.size_setIfInBounds] <;> omega)))) (by first | rfl | simp), box_cast (by (repeat (first | (with_reducible assumption) | (with_reducible exact box_new _ _ _) | ((with_reducible apply box_at); (first | (with_reducible rfl) | (simp <;> omega))) | (with_reducible apply Box.drew) | (with_reducible apply Box.drewN) | (with_reducible apply Box.near) | (with_reducible apply Box.alloc) | ((with_reducible apply box_far); (first | assumption | omega | (simp <;> omega))) | ((with_reducible apply Box.one_set); (with_reducible assumption)) | ((with_reducible apply Box.two_set); (with_reducible assumption)) | ((with_reducible apply Box.three_set); (with_reducible assumption)) | (with_reducible apply Box.set) | (simp only [List.size_toArray, List.length_cons, List.length_nil, Array.size_setIfInBounds] <;> omega)))) (by first | rfl | simp), box_cast (by (repeat (first | (with_reducible assumption) | (with_reducible exact box_new _ _ _) | ((with_reducible apply box_at); (first | (with_reducible rfl) | (simp <;> omega))) | (with_reducible apply Box.drew) | (with_reducible apply Box.drewN) | (with_reducible apply Box.near) | (with_reducible apply Box.alloc) | ((with_reducible apply box_far); (first | assumption | omega | (simp <;> omega))) | ((with_reducible apply Box.one_set); (with_reducible assumption)) | ((with_reducible apply Box.two_set); (with_reducible assumption)) | ((with_reducible apply Box.three_set); (with_reducible assumption)) | (with_reducible apply Box.set) | (simp only [List.size_toArray, List.length_cons, List.length_nil, Array.size_setIfInBounds] <;> omega)))) (by first | rfl | simp)⟩ ?_
                clear A X_pe l_pe c_pe f_pe X_pd l_pd c_pd f_pd X_pg l_pg c_pg f_pg X_pt l_pt c_pt f_pt
                rintro w12 ⟨A, X_pe, X_pd, X_pg, X_pt, X_pc⟩
                obtain ⟨pc, h_pc⟩ : ∃ pc, w11.heap.size = pc := ⟨_, rfl⟩
                have o_pc : W.heap.size ≤ pc := by omega
                rw [h_pc] at X_pc n_pe_pc n_pc_pe n_pd_pc n_pc_pd n_pg_pc n_pc_pg n_pt_pc n_pc_pt
                simp only [h_pc]
                clear h_pc z_pc
                obtain ⟨l_pe, c_pe, f_pe⟩ := id X_pe
                obtain ⟨l_pd, c_pd, f_pd⟩ := id X_pd
                obtain ⟨l_pg, c_pg, f_pg⟩ := id X_pg
                obtain ⟨l_pt, c_pt, f_pt⟩ := id X_pt
                obtain ⟨l_pc, c_pc, f_pc⟩ := id X_pc
                go_wp2_with (fail)
                refine (law40_awake _).mono ?_
                rintro e w13 ⟨rfl, hb⟩
                replace A := below_call A hb
                clear l_pe c_pe f_pe
                replace X_pe := X_pe.below hb
                clear l_pd c_pd f_pd
                replace X_pd := X_pd.below hb
                clear l_pg c_pg f_pg
                replace X_pg := X_pg.below hb
                clear l_pt c_pt f_pt
                replace X_pt := X_pt.below hb
                clear l_pc c_pc f_pc
                replace X_pc := X_pc.below hb
                clear hb
                obtain ⟨l_pe, c_pe, f_pe⟩ := id X_pe
                obtain ⟨l_pd, c_pd, f_pd⟩ := id X_pd
                obtain ⟨l_pg, c_pg, f_pg⟩ := id X_pg
                obtain ⟨l_pt, c_pt, f_pt⟩ := id X_pt
                obtain ⟨l_pc, c_pc, f_pc⟩ := id X_pc
                go_wp2
                all_goals go_ret
                all_goals exact ⟨rfl, A⟩
              · subst hi
                obtain ⟨m0, p0, p1, p2, HB⟩ := HNext.out D HDg.out.1 HDg.out.2.1 HDg.out.2.2.1 HDg.out.2.2.2.1 HDg.out.2.2.2.2 (by have := hD.out; omega)
                have HB := Lib.hid HB
                have q1 : (e0 == e0 + 1) = false := by simp; omega
                have q2 : (e0 + 1 == e0) = false := by simp; omega
                obtain ⟨l_pe, c_pe, f_pe⟩ := id X_pe
                obtain ⟨l_pd, c_pd, f_pd⟩ := id X_pd
                obtain ⟨l_pg, c_pg, f_pg⟩ := id X_pg
                obtain ⟨l_pt, c_pt, f_pt⟩ := id X_pt
                go_wp2_with (fail)
                refine (HC.out _).mono ?_
                rintro e w10 ⟨rfl, hb⟩
                replace A := below_call A hb
                clear l_pe c_pe f_pe
                replace X_pe := X_pe.below hb
                clear l_pd c_pd f_pd
                replace X_pd := X_pd.below hb
                clear l_pg c_pg f_pg
                replace X_pg := X_pg.below hb
                clear l_pt c_pt f_pt
                replace X_pt := X_pt.below hb
                clear hb
                obtain ⟨l_pe, c_pe, f_pe⟩ := id X_pe
                obtain ⟨l_pd, c_pd, f_pd⟩ := id X_pd
                obtain ⟨l_pg, c_pg, f_pg⟩ := id X_pg
                obtain ⟨l_pt, c_pt, f_pt⟩ := id X_pt
                go_wp2_with (fail)
                refine (HB.out _).mono ?_
                rintro e w11 ⟨rfl, hb⟩
                replace A := below_call A hb
                clear l_pe c_pe f_pe
                replace X_pe := X_pe.below hb
                clear l_pd c_pd f_pd
                replace X_pd := X_pd.below hb
                clear l_pg c_pg f_pg
                replace X_pg := X_pg.below hb
                clear l_pt c_pt f_pt
                replace X_pt := X_pt.below hb
                clear hb
                obtain ⟨l_pe, c_pe, f_pe⟩ := id X_pe
                obtain ⟨l_pd, c_pd, f_pd⟩ := id X_pd
                obtain ⟨l_pg, c_pg, f_pg⟩ := id X_pg
                obtain ⟨l_pt, c_pt, f_pt⟩ := id X_pt
                go_upto_region 27 with (fail)
                have z_pc : W.heap.size ≤ w11.heap.size := by (have h9 := A.size; omega)
                have n_pe_pc : ¬ pe = w11.heap.size := by omega
                have n_pc_pe : ¬ w11.heap.size = pe := by omega
                have n_pd_pc : ¬ pd = w11.heap.size := by omega
                have n_pc_pd : ¬ w11.heap.size = pd := by omega
                have n_pg_pc : ¬ pg = w11.heap.size := by omega
                have n_pc_pg : ¬ w11.heap.size = pg := by omega
                have n_pt_pc : ¬ pt = w11.heap.size := by omega
                have n_pc_pt : ¬ w11.heap.size = pt := by omega
                refine at_world (fun V => Below W.heap.size W V ∧ Box V (pe) #[.int .i64 e0, .int .i64 e1, .int .i64 e2, .int .i64 e3, .int .i64 e4, .int .i64 e5, .int .i64 e6, .int .i64 e7] ∧ Box V (pd) #[.int .i64 (e0 + 1), .int .i64 d1, .int .i64 d2, .int .i64 d3, .int .i64 d4, .int .i64 d5, .int .i64 d6, .int .i64 d7] ∧ Box V (pg) #[.string D, .string S, .bool false, .int .i64 0, .string ⟨#[]⟩, .int .i64 0] ∧ Box V (pt) #[.int .i64 t0, .int .i64 t1, .int .i64 t2, .int .i64 t3, .int .i64 t4, .int .i64 t5, .int .i64 t6, .int .i64 t7] ∧ Box V (w11.heap.size) #[.int .i64 m0, .int .i64 p0, .int .i64 p1, .int .i64 p2, .int .i64 d5, .int .i64 d6, .int .i64 d7, .int .i64 (e0 + 1), .int .i64 0, .bool false]) ⟨by (repeat (first | (with_reducible exact Below.refl _ _) | (with_reducible assumption) | (with_reducible refine Near.up _ ?_) | (with_reducible refine Below.drew ?_) | (with_reducible refine below_alloc_on ?_ _) | (with_reducible refine below_set_on ?_ (by first | (simp; done) | (simp; omega) | omega) _))), box_cast (by (repeat (first | (with_reducible assumption) | (with_reducible exact box_new _ _ _) | ((with_reducible apply box_at); (first | (with_reducible rfl) | (simp <;> omega))) | (with_reducible apply Box.drew) | (with_reducible apply Box.drewN) | (with_reducible apply Box.near) | (with_reducible apply Box.alloc) | ((with_reducible apply box_far); (first | assumption | omega | (simp <;> omega))) | ((with_reducible apply Box.one_set); (with_reducible assumption)) | ((with_reducible apply Box.two_set); (with_reducible assumption)) | ((with_reducible apply Box.three_set); (with_reducible assumption)) | (with_reducible apply Box.set) | (simp only [List.size_toArray, List.length_cons, List.length_nil, Array.size_setIfInBounds] <;> omega)))) (by first | rfl | simp), box_cast (by (repeat (first | (with_reducible assumption) | (with_reducible exact box_new _ _ _) | ((with_reducible apply box_at); (first | (with_reducible rfl) | (simp <;> omega))) | (with_reducible apply Box.drew) | (with_reducible apply Box.drewN) | (with_reducible apply Box.near) | (with_reducible apply Box.alloc) | ((with_reducible apply box_far); (first | assumption | omega | (simp <;> omega))) | ((with_reducible apply Box.one_set); (with_reducible assumption)) | ((with_reducible apply Box.two_set); (with_reducible assumption)) | ((with_reducible apply Box.three_set); (with_reducible assumption)) | (with_reducible apply Box.set) | (simp only [List.size_toArray, List.length_cons, List.length_nil, Array.size_setIfInBounds] <;> omega)))) (by first | rfl | simp), box_cast (by (repeat (first | (with_reducible assumption) | (with_reducible exact box_new _ _ _) | ((with_reducible apply box_at); (first | (with_reducible rfl) | (simp <;> omega))) | (with_reducible apply Box.drew) | (with_reducible apply Box.drewN) | (with_reducible apply Box.near) | (with_reducible apply Box.alloc) | ((with_reducible apply box_far); (first | assumption | omega | (simp <;> omega))) | ((with_reducible apply Box.one_set); (with_reducible assumption)) | ((with_reducible apply Box.two_set); (with_reducible assumption)) | ((with_reducible apply Box.three_set); (with_reducible assumption)) | (with_reducible apply Box.set) | (simp only [List.size_toArray, List.length_cons, List.length_nil, Array.size_setIfInBounds] <;> omega)))) (by first | rfl | simp), box_cast (by (repeat (first | (with_reducible assumption) | (with_reducible exact box_new _ _ _) | ((with_reducible apply box_at); (first | (with_reducible rfl) | (simp <;> omega))) | (with_reducible apply Box.drew) | (with_reducible apply Box.drewN) | (with_reducible apply Box.near) | (with_reducible apply Box.alloc) | ((with_reducible apply box_far); (first | assumption | omega | (simp <;> omega))) | ((with_reducible apply Box.one_set); (with_reducible assumption)) | ((with_reducible apply Box.two_set); (with_reducible assumption)) | ((with_reducible apply Box.three_set); (with_reducible assumption)) | (with_reducible apply Box.set) | (simp only [List.size_toArray, List.length_cons, List.length_nil, Array.size_setIfInBounds] <;> omega)))) (by first | rfl | simp), box_cast (by (repeat (first | (with_reducible assumption) | (with_reducible exact box_new _ _ _) | ((with_reducible apply box_at); (first | (with_reducible rfl) | (simp <;> omega))) | (with_reducible apply Box.drew) | (with_reducible apply Box.drewN) | (with_reducible apply Box.near) | (with_reducible apply Box.alloc) | ((with_reducible apply box_far); (first | assumption | omega | (simp <;> omega))) | ((with_reducible apply Box.one_set); (with_reducible assumption)) | ((with_reducible apply Box.two_set); (with_reducible assumption)) | ((with_reducible apply Box.three_set); (with_reducible assumption)) | (with_reducible apply Box.set) | (simp only [List.size_toArray, List.length_cons, List.length_nil, Array.size_setIfInBounds] <;> omega)))) (by first | rfl | simp)⟩ ?_
                clear A X_pe l_pe c_pe f_pe X_pd l_pd c_pd f_pd X_pg l_pg c_pg f_pg X_pt l_pt c_pt f_pt
                rintro w12 ⟨A, X_pe, X_pd, X_pg, X_pt, X_pc⟩
                obtain ⟨pc, h_pc⟩ : ∃ pc, w11.heap.size = pc := ⟨_, rfl⟩
                have o_pc : W.heap.size ≤ pc := by omega
                rw [h_pc] at X_pc n_pe_pc n_pc_pe n_pd_pc n_pc_pd n_pg_pc n_pc_pg n_pt_pc n_pc_pt
                simp only [h_pc]
                clear h_pc z_pc
                obtain ⟨l_pe, c_pe, f_pe⟩ := id X_pe
                obtain ⟨l_pd, c_pd, f_pd⟩ := id X_pd
                obtain ⟨l_pg, c_pg, f_pg⟩ := id X_pg
                obtain ⟨l_pt, c_pt, f_pt⟩ := id X_pt
                obtain ⟨l_pc, c_pc, f_pc⟩ := id X_pc
                go_wp2_with (fail)
                refine (law40_awake _).mono ?_
                rintro e w13 ⟨rfl, hb⟩
                replace A := below_call A hb
                clear l_pe c_pe f_pe
                replace X_pe := X_pe.below hb
                clear l_pd c_pd f_pd
                replace X_pd := X_pd.below hb
                clear l_pg c_pg f_pg
                replace X_pg := X_pg.below hb
                clear l_pt c_pt f_pt
                replace X_pt := X_pt.below hb
                clear l_pc c_pc f_pc
                replace X_pc := X_pc.below hb
                clear hb
                obtain ⟨l_pe, c_pe, f_pe⟩ := id X_pe
                obtain ⟨l_pd, c_pd, f_pd⟩ := id X_pd
                obtain ⟨l_pg, c_pg, f_pg⟩ := id X_pg
                obtain ⟨l_pt, c_pt, f_pt⟩ := id X_pt
                obtain ⟨l_pc, c_pc, f_pc⟩ := id X_pc
                go_wp2
                all_goals go_ret
                all_goals exact ⟨rfl, A⟩
            · rw [hq, hc, hn] at X_pg
              subst hr
              clear hq hc hn
              have HC := Lib.hid (show ∀ w, Calls Try.prog 10 #[.agg #[.string X, .string S, .bool false, .int .i64 0, .string ⟨#[]⟩, .int .i64 0], .string T] w fun x w' => x = .returned (.agg #[.string X, .string S, .bool false, .int .i64 0, .string ⟨#[]⟩, .int .i64 0]) ∧ Below w.heap.size w w' from fun w => fl_cut_idle X S 0 _ 0 T w)
              rcases HT.out with ⟨hi, hg⟩ | ⟨hi, hne, hg, g0, g5, g6, g7⟩ | ⟨hi, hne⟩
              · subst hi
                obtain ⟨m0, p0, p1, p2, HB⟩ := HLast.out X hx hz
                have HB := Lib.hid HB
                have q1 : (e0 == e0 + 1) = false := by simp; omega
                have q2 : (e0 + 1 == e0) = false := by simp; omega
                obtain ⟨l_pe, c_pe, f_pe⟩ := id X_pe
                obtain ⟨l_pd, c_pd, f_pd⟩ := id X_pd
                obtain ⟨l_pg, c_pg, f_pg⟩ := id X_pg
                obtain ⟨l_pt, c_pt, f_pt⟩ := id X_pt
                go_wp2_with (fail)
                refine (HC.out _).mono ?_
                rintro e w10 ⟨rfl, hb⟩
                replace A := below_call A hb
                clear l_pe c_pe f_pe
                replace X_pe := X_pe.below hb
                clear l_pd c_pd f_pd
                replace X_pd := X_pd.below hb
                clear l_pg c_pg f_pg
                replace X_pg := X_pg.below hb
                clear l_pt c_pt f_pt
                replace X_pt := X_pt.below hb
                clear hb
                obtain ⟨l_pe, c_pe, f_pe⟩ := id X_pe
                obtain ⟨l_pd, c_pd, f_pd⟩ := id X_pd
                obtain ⟨l_pg, c_pg, f_pg⟩ := id X_pg
                obtain ⟨l_pt, c_pt, f_pt⟩ := id X_pt
                go_wp2_with (fail)
                refine (HB.out _).mono ?_
                rintro e w11 ⟨rfl, hb⟩
                replace A := below_call A hb
                clear l_pe c_pe f_pe
                replace X_pe := X_pe.below hb
                clear l_pd c_pd f_pd
                replace X_pd := X_pd.below hb
                clear l_pg c_pg f_pg
                replace X_pg := X_pg.below hb
                clear l_pt c_pt f_pt
                replace X_pt := X_pt.below hb
                clear hb
                obtain ⟨l_pe, c_pe, f_pe⟩ := id X_pe
                obtain ⟨l_pd, c_pd, f_pd⟩ := id X_pd
                obtain ⟨l_pg, c_pg, f_pg⟩ := id X_pg
                obtain ⟨l_pt, c_pt, f_pt⟩ := id X_pt
                go_upto_region 27 with (fail)
                have z_pc : W.heap.size ≤ w11.heap.size := by (have h9 := A.size; omega)
                have n_pe_pc : ¬ pe = w11.heap.size := by omega
                have n_pc_pe : ¬ w11.heap.size = pe := by omega
                have n_pd_pc : ¬ pd = w11.heap.size := by omega
                have n_pc_pd : ¬ w11.heap.size = pd := by omega
                have n_pg_pc : ¬ pg = w11.heap.size := by omega
                have n_pc_pg : ¬ w11.heap.size = pg := by omega
                have n_pt_pc : ¬ pt = w11.heap.size := by omega
                have n_pc_pt : ¬ w11.heap.size = pt := by omega
                refine at_world (fun V => Below W.heap.size W V ∧ Box V (pe) #[.int .i64 e0, .int .i64 e1, .int .i64 e2, .int .i64 e3, .int .i64 e4, .int .i64 e5, .int .i64 e6, .int .i64 e7] ∧ Box V (pd) #[.int .i64 (e0 + 1), .int .i64 d1, .int .i64 d2, .int .i64 d3, .int .i64 d4, .int .i64 d5, .int .i64 d6, .int .i64 d7] ∧ Box V (pg) #[.string X, .string S, .bool false, .int .i64 0, .string ⟨#[]⟩, .int .i64 0] ∧ Box V (pt) #[.int .i64 t0, .int .i64 t1, .int .i64 t2, .int .i64 t3, .int .i64 t4, .int .i64 t5, .int .i64 t6, .int .i64 t7] ∧ Box V (w11.heap.size) #[.int .i64 m0, .int .i64 p0, .int .i64 p1, .int .i64 p2, .int .i64 e5, .int .i64 e6, .int .i64 e7, .int .i64 e0, .int .i64 1, .bool false]) ⟨by (repeat (first | (with_reducible exact Below.refl _ _) | (with_reducible assumption) | (with_reducible refine Near.up _ ?_) | (with_reducible refine Below.drew ?_) | (with_reducible refine below_alloc_on ?_ _) | (with_reducible refine below_set_on ?_ (by first | (simp; done) | (simp; omega) | omega) _))), box_cast (by (repeat (first | (with_reducible assumption) | (with_reducible exact box_new _ _ _) | ((with_reducible apply box_at); (first | (with_reducible rfl) | (simp <;> omega))) | (with_reducible apply Box.drew) | (with_reducible apply Box.drewN) | (with_reducible apply Box.near) | (with_reducible apply Box.alloc) | ((with_reducible apply box_far); (first | assumption | omega | (simp <;> omega))) | ((with_reducible apply Box.one_set); (with_reducible assumption)) | ((with_reducible apply Box.two_set); (with_reducible assumption)) | ((with_reducible apply Box.three_set); (with_reducible assumption)) | (with_reducible apply Box.set) | (simp only [List.size_toArray, List.length_cons, List.length_nil, Array.size_setIfInBounds] <;> omega)))) (by first | rfl | simp), box_cast (by (repeat (first | (with_reducible assumption) | (with_reducible exact box_new _ _ _) | ((with_reducible apply box_at); (first | (with_reducible rfl) | (simp <;> omega))) | (with_reducible apply Box.drew) | (with_reducible apply Box.drewN) | (with_reducible apply Box.near) | (with_reducible apply Box.alloc) | ((with_reducible apply box_far); (first | assumption | omega | (simp <;> omega))) | ((with_reducible apply Box.one_set); (with_reducible assumption)) | ((with_reducible apply Box.two_set); (with_reducible assumption)) | ((with_reducible apply Box.three_set); (with_reducible assumption)) | (with_reducible apply Box.set) | (simp only [List.size_toArray, List.length_cons, List.length_nil, Array.size_setIfInBounds] <;> omega)))) (by first | rfl | simp), box_cast (by (repeat (first | (with_reducible assumption) | (with_reducible exact box_new _ _ _) | ((with_reducible apply box_at); (first | (with_reducible rfl) | (simp <;> omega))) | (with_reducible apply Box.drew) | (with_reducible apply Box.drewN) | (with_reducible apply Box.near) | (with_reducible apply Box.alloc) | ((with_reducible apply box_far); (first | assumption | omega | (simp <;> omega))) | ((with_reducible apply Box.one_set); (with_reducible assumption)) | ((with_reducible apply Box.two_set); (with_reducible assumption)) | ((with_reducible apply Box.three_set); (with_reducible assumption)) | (with_reducible apply Box.set) | (simp only [List.size_toArray, List.length_cons, List.length_nil, Array.size_setIfInBounds] <;> omega)))) (by first | rfl | simp), box_cast (by (repeat (first | (with_reducible assumption) | (with_reducible exact box_new _ _ _) | ((with_reducible apply box_at); (first | (with_reducible rfl) | (simp <;> omega))) | (with_reducible apply Box.drew) | (with_reducible apply Box.drewN) | (with_reducible apply Box.near) | (with_reducible apply Box.alloc) | ((with_reducible apply box_far); (first | assumption | omega | (simp <;> omega))) | ((with_reducible apply Box.one_set); (with_reducible assumption)) | ((with_reducible apply Box.two_set); (with_reducible assumption)) | ((with_reducible apply Box.three_set); (with_reducible assumption)) | (with_reducible apply Box.set) | (simp only [List.size_toArray, List.length_cons, List.length_nil, Array.size_setIfInBounds] <;> omega)))) (by first | rfl | simp), box_cast (by (repeat (first | (with_reducible assumption) | (with_reducible exact box_new _ _ _) | ((with_reducible apply box_at); (first | (with_reducible rfl) | (simp <;> omega))) | (with_reducible apply Box.drew) | (with_reducible apply Box.drewN) | (with_reducible apply Box.near) | (with_reducible apply Box.alloc) | ((with_reducible apply box_far); (first | assumption | omega | (simp <;> omega))) | ((with_reducible apply Box.one_set); (with_reducible assumption)) | ((with_reducible apply Box.two_set); (with_reducible assumption)) | ((with_reducible apply Box.three_set); (with_reducible assumption)) | (with_reducible apply Box.set) | (simp only [List.size_toArray, List.length_cons, List.length_nil, Array.size_setIfInBounds] <;> omega)))) (by first | rfl | simp)⟩ ?_
                clear A X_pe l_pe c_pe f_pe X_pd l_pd c_pd f_pd X_pg l_pg c_pg f_pg X_pt l_pt c_pt f_pt
                rintro w12 ⟨A, X_pe, X_pd, X_pg, X_pt, X_pc⟩
                obtain ⟨pc, h_pc⟩ : ∃ pc, w11.heap.size = pc := ⟨_, rfl⟩
                have o_pc : W.heap.size ≤ pc := by omega
                rw [h_pc] at X_pc n_pe_pc n_pc_pe n_pd_pc n_pc_pd n_pg_pc n_pc_pg n_pt_pc n_pc_pt
                simp only [h_pc]
                clear h_pc z_pc
                obtain ⟨l_pe, c_pe, f_pe⟩ := id X_pe
                obtain ⟨l_pd, c_pd, f_pd⟩ := id X_pd
                obtain ⟨l_pg, c_pg, f_pg⟩ := id X_pg
                obtain ⟨l_pt, c_pt, f_pt⟩ := id X_pt
                obtain ⟨l_pc, c_pc, f_pc⟩ := id X_pc
                go_wp2_with (fail)
                refine (law40_awake _).mono ?_
                rintro e w13 ⟨rfl, hb⟩
                replace A := below_call A hb
                clear l_pe c_pe f_pe
                replace X_pe := X_pe.below hb
                clear l_pd c_pd f_pd
                replace X_pd := X_pd.below hb
                clear l_pg c_pg f_pg
                replace X_pg := X_pg.below hb
                clear l_pt c_pt f_pt
                replace X_pt := X_pt.below hb
                clear l_pc c_pc f_pc
                replace X_pc := X_pc.below hb
                clear hb
                obtain ⟨l_pe, c_pe, f_pe⟩ := id X_pe
                obtain ⟨l_pd, c_pd, f_pd⟩ := id X_pd
                obtain ⟨l_pg, c_pg, f_pg⟩ := id X_pg
                obtain ⟨l_pt, c_pt, f_pt⟩ := id X_pt
                obtain ⟨l_pc, c_pc, f_pc⟩ := id X_pc
                go_wp2
                all_goals go_ret
                all_goals exact ⟨rfl, A⟩
              · subst hi
                obtain ⟨m0, p0, p1, p2, HB⟩ := HLast.out X hx hz
                have HB := Lib.hid HB
                have q1 : (e0 == e0 + 1) = false := by simp; omega
                have q2 : (e0 + 1 == e0) = false := by simp; omega
                obtain ⟨l_pe, c_pe, f_pe⟩ := id X_pe
                obtain ⟨l_pd, c_pd, f_pd⟩ := id X_pd
                obtain ⟨l_pg, c_pg, f_pg⟩ := id X_pg
                obtain ⟨l_pt, c_pt, f_pt⟩ := id X_pt
                go_wp2_with (fail)
                refine (HC.out _).mono ?_
                rintro e w10 ⟨rfl, hb⟩
                replace A := below_call A hb
                clear l_pe c_pe f_pe
                replace X_pe := X_pe.below hb
                clear l_pd c_pd f_pd
                replace X_pd := X_pd.below hb
                clear l_pg c_pg f_pg
                replace X_pg := X_pg.below hb
                clear l_pt c_pt f_pt
                replace X_pt := X_pt.below hb
                clear hb
                obtain ⟨l_pe, c_pe, f_pe⟩ := id X_pe
                obtain ⟨l_pd, c_pd, f_pd⟩ := id X_pd
                obtain ⟨l_pg, c_pg, f_pg⟩ := id X_pg
                obtain ⟨l_pt, c_pt, f_pt⟩ := id X_pt
                go_wp2_with (fail)
                refine (HB.out _).mono ?_
                rintro e w11 ⟨rfl, hb⟩
                replace A := below_call A hb
                clear l_pe c_pe f_pe
                replace X_pe := X_pe.below hb
                clear l_pd c_pd f_pd
                replace X_pd := X_pd.below hb
                clear l_pg c_pg f_pg
                replace X_pg := X_pg.below hb
                clear l_pt c_pt f_pt
                replace X_pt := X_pt.below hb
                clear hb
                obtain ⟨l_pe, c_pe, f_pe⟩ := id X_pe
                obtain ⟨l_pd, c_pd, f_pd⟩ := id X_pd
                obtain ⟨l_pg, c_pg, f_pg⟩ := id X_pg
                obtain ⟨l_pt, c_pt, f_pt⟩ := id X_pt
                go_upto_region 27 with (fail)
                have z_pc : W.heap.size ≤ w11.heap.size := by (have h9 := A.size; omega)
                have n_pe_pc : ¬ pe = w11.heap.size := by omega
                have n_pc_pe : ¬ w11.heap.size = pe := by omega
                have n_pd_pc : ¬ pd = w11.heap.size := by omega
                have n_pc_pd : ¬ w11.heap.size = pd := by omega
                have n_pg_pc : ¬ pg = w11.heap.size := by omega
                have n_pc_pg : ¬ w11.heap.size = pg := by omega
                have n_pt_pc : ¬ pt = w11.heap.size := by omega
                have n_pc_pt : ¬ w11.heap.size = pt := by omega
                refine at_world (fun V => Below W.heap.size W V ∧ Box V (pe) #[.int .i64 e0, .int .i64 e1, .int .i64 e2, .int .i64 e3, .int .i64 e4, .int .i64 e5, .int .i64 e6, .int .i64 e7] ∧ Box V (pd) #[.int .i64 (e0 + 1), .int .i64 d1, .int .i64 d2, .int .i64 d3, .int .i64 d4, .int .i64 d5, .int .i64 d6, .int .i64 d7] ∧ Box V (pg) #[.string X, .string S, .bool false, .int .i64 0, .string ⟨#[]⟩, .int .i64 0] ∧ Box V (pt) #[.int .i64 t0, .int .i64 t1, .int .i64 t2, .int .i64 t3, .int .i64 t4, .int .i64 t5, .int .i64 t6, .int .i64 t7] ∧ Box V (w11.heap.size) #[.int .i64 m0, .int .i64 p0, .int .i64 p1, .int .i64 p2, .int .i64 e5, .int .i64 e6, .int .i64 e7, .int .i64 e0, .int .i64 1, .bool false]) ⟨by (repeat (first | (with_reducible exact Below.refl _ _) | (with_reducible assumption) | (with_reducible refine Near.up _ ?_) | (with_reducible refine Below.drew ?_) | (with_reducible refine below_alloc_on ?_ _) | (with_reducible refine below_set_on ?_ (by first | (simp; done) | (simp; omega) | omega) _))), box_cast (by (repeat (first | (with_reducible assumption) | (with_reducible exact box_new _ _ _) | ((with_reducible apply box_at); (first | (with_reducible rfl) | (simp <;> omega))) | (with_reducible apply Box.drew) | (with_reducible apply Box.drewN) | (with_reducible apply Box.near) | (with_reducible apply Box.alloc) | ((with_reducible apply box_far); (first | assumption | omega | (simp <;> omega))) | ((with_reducible apply Box.one_set); (with_reducible assumption)) | ((with_reducible apply Box.two_set); (with_reducible assumption)) | ((with_reducible apply Box.three_set); (with_reducible assumption)) | (with_reducible apply Box.set) | (simp only [List.size_toArray, List.length_cons, List.length_nil, Array.size_setIfInBounds] <;> omega)))) (by first | rfl | simp), box_cast (by (repeat (first | (with_reducible assumption) | (with_reducible exact box_new _ _ _) | ((with_reducible apply box_at); (first | (with_reducible rfl) | (simp <;> omega))) | (with_reducible apply Box.drew) | (with_reducible apply Box.drewN) | (with_reducible apply Box.near) | (with_reducible apply Box.alloc) | ((with_reducible apply box_far); (first | assumption | omega | (simp <;> omega))) | ((with_reducible apply Box.one_set); (with_reducible assumption)) | ((with_reducible apply Box.two_set); (with_reducible assumption)) | ((with_reducible apply Box.three_set); (with_reducible assumption)) | (with_reducible apply Box.set) | (simp only [List.size_toArray, List.length_cons, List.length_nil, Array.size_setIfInBounds] <;> omega)))) (by first | rfl | simp), box_cast (by (repeat (first | (with_reducible assumption) | (with_reducible exact box_new _ _ _) | ((with_reducible apply box_at); (first | (with_reducible rfl) | (simp <;> omega))) | (with_reducible apply Box.drew) | (with_reducible apply Box.drewN) | (with_reducible apply Box.near) | (with_reducible apply Box.alloc) | ((with_reducible apply box_far); (first | assumption | omega | (simp <;> omega))) | ((with_reducible apply Box.one_set); (with_reducible assumption)) | ((with_reducible apply Box.two_set); (with_reducible assumption)) | ((with_reducible apply Box.three_set); (with_reducible assumption)) | (with_reducible apply Box.set) | (simp only [List.size_toArray, List.length_cons, List.length_nil, Array.size_setIfInBounds] <;> omega)))) (by first | rfl | simp), box_cast (by (repeat (first | (with_reducible assumption) | (with_reducible exact box_new _ _ _) | ((with_reducible apply box_at); (first | (with_reducible rfl) | (simp <;> omega))) | (with_reducible apply Box.drew) | (with_reducible apply Box.drewN) | (with_reducible apply Box.near) | (with_reducible apply Box.alloc) | ((with_reducible apply box_far); (first | assumption | omega | (simp <;> omega))) | ((with_reducible apply Box.one_set); (with_reducible assumption)) | ((with_reducible apply Box.two_set); (with_reducible assumption)) | ((with_reducible apply Box.three_set); (with_reducible assumption)) | (with_reducible apply Box.set) | (simp only [List.size_toArray, List.length_cons, List.length_nil, Array.size_setIfInBounds] <;> omega)))) (by first | rfl | simp), box_cast (by (repeat (first | (with_reducible assumption) | (with_reducible exact box_new _ _ _) | ((with_reducible apply box_at); (first | (with_reducible rfl) | (simp <;> omega))) | (with_reducible apply Box.drew) | (with_reducible apply Box.drewN) | (with_reducible apply Box.near) | (with_reducible apply Box.alloc) | ((with_reducible apply box_far); (first | assumption | omega | (simp <;> omega))) | ((with_reducible apply Box.one_set); (with_reducible assumption)) | ((with_reducible apply Box.two_set); (with_reducible assumption)) | ((with_reducible apply Box.three_set); (with_reducible assumption)) | (with_reducible apply Box.set) | (simp only [List.size_toArray, List.length_cons, List.length_nil, Array.size_setIfInBounds] <;> omega)))) (by first | rfl | simp)⟩ ?_
                clear A X_pe l_pe c_pe f_pe X_pd l_pd c_pd f_pd X_pg l_pg c_pg f_pg X_pt l_pt c_pt f_pt
                rintro w12 ⟨A, X_pe, X_pd, X_pg, X_pt, X_pc⟩
                obtain ⟨pc, h_pc⟩ : ∃ pc, w11.heap.size = pc := ⟨_, rfl⟩
                have o_pc : W.heap.size ≤ pc := by omega
                rw [h_pc] at X_pc n_pe_pc n_pc_pe n_pd_pc n_pc_pd n_pg_pc n_pc_pg n_pt_pc n_pc_pt
                simp only [h_pc]
                clear h_pc z_pc
                obtain ⟨l_pe, c_pe, f_pe⟩ := id X_pe
                obtain ⟨l_pd, c_pd, f_pd⟩ := id X_pd
                obtain ⟨l_pg, c_pg, f_pg⟩ := id X_pg
                obtain ⟨l_pt, c_pt, f_pt⟩ := id X_pt
                obtain ⟨l_pc, c_pc, f_pc⟩ := id X_pc
                go_wp2_with (fail)
                refine (law40_awake _).mono ?_
                rintro e w13 ⟨rfl, hb⟩
                replace A := below_call A hb
                clear l_pe c_pe f_pe
                replace X_pe := X_pe.below hb
                clear l_pd c_pd f_pd
                replace X_pd := X_pd.below hb
                clear l_pg c_pg f_pg
                replace X_pg := X_pg.below hb
                clear l_pt c_pt f_pt
                replace X_pt := X_pt.below hb
                clear l_pc c_pc f_pc
                replace X_pc := X_pc.below hb
                clear hb
                obtain ⟨l_pe, c_pe, f_pe⟩ := id X_pe
                obtain ⟨l_pd, c_pd, f_pd⟩ := id X_pd
                obtain ⟨l_pg, c_pg, f_pg⟩ := id X_pg
                obtain ⟨l_pt, c_pt, f_pt⟩ := id X_pt
                obtain ⟨l_pc, c_pc, f_pc⟩ := id X_pc
                go_wp2
                all_goals go_ret
                all_goals exact ⟨rfl, A⟩
              · subst hi
                obtain ⟨m0, p0, p1, p2, HB⟩ := HLast.out X hx hz
                have HB := Lib.hid HB
                have q1 : (e0 == e0 + 1) = false := by simp; omega
                have q2 : (e0 + 1 == e0) = false := by simp; omega
                obtain ⟨l_pe, c_pe, f_pe⟩ := id X_pe
                obtain ⟨l_pd, c_pd, f_pd⟩ := id X_pd
                obtain ⟨l_pg, c_pg, f_pg⟩ := id X_pg
                obtain ⟨l_pt, c_pt, f_pt⟩ := id X_pt
                go_wp2_with (fail)
                refine (HC.out _).mono ?_
                rintro e w10 ⟨rfl, hb⟩
                replace A := below_call A hb
                clear l_pe c_pe f_pe
                replace X_pe := X_pe.below hb
                clear l_pd c_pd f_pd
                replace X_pd := X_pd.below hb
                clear l_pg c_pg f_pg
                replace X_pg := X_pg.below hb
                clear l_pt c_pt f_pt
                replace X_pt := X_pt.below hb
                clear hb
                obtain ⟨l_pe, c_pe, f_pe⟩ := id X_pe
                obtain ⟨l_pd, c_pd, f_pd⟩ := id X_pd
                obtain ⟨l_pg, c_pg, f_pg⟩ := id X_pg
                obtain ⟨l_pt, c_pt, f_pt⟩ := id X_pt
                go_wp2_with (fail)
                refine (HB.out _).mono ?_
                rintro e w11 ⟨rfl, hb⟩
                replace A := below_call A hb
                clear l_pe c_pe f_pe
                replace X_pe := X_pe.below hb
                clear l_pd c_pd f_pd
                replace X_pd := X_pd.below hb
                clear l_pg c_pg f_pg
                replace X_pg := X_pg.below hb
                clear l_pt c_pt f_pt
                replace X_pt := X_pt.below hb
                clear hb
                obtain ⟨l_pe, c_pe, f_pe⟩ := id X_pe
                obtain ⟨l_pd, c_pd, f_pd⟩ := id X_pd
                obtain ⟨l_pg, c_pg, f_pg⟩ := id X_pg
                obtain ⟨l_pt, c_pt, f_pt⟩ := id X_pt
                go_upto_region 27 with (fail)
                have z_pc : W.heap.size ≤ w11.heap.size := by (have h9 := A.size; omega)
                have n_pe_pc : ¬ pe = w11.heap.size := by omega
                have n_pc_pe : ¬ w11.heap.size = pe := by omega
                have n_pd_pc : ¬ pd = w11.heap.size := by omega
                have n_pc_pd : ¬ w11.heap.size = pd := by omega
                have n_pg_pc : ¬ pg = w11.heap.size := by omega
                have n_pc_pg : ¬ w11.heap.size = pg := by omega
                have n_pt_pc : ¬ pt = w11.heap.size := by omega
                have n_pc_pt : ¬ w11.heap.size = pt := by omega
                refine at_world (fun V => Below W.heap.size W V ∧ Box V (pe) #[.int .i64 e0, .int .i64 e1, .int .i64 e2, .int .i64 e3, .int .i64 e4, .int .i64 e5, .int .i64 e6, .int .i64 e7] ∧ Box V (pd) #[.int .i64 (e0 + 1), .int .i64 d1, .int .i64 d2, .int .i64 d3, .int .i64 d4, .int .i64 d5, .int .i64 d6, .int .i64 d7] ∧ Box V (pg) #[.string X, .string S, .bool false, .int .i64 0, .string ⟨#[]⟩, .int .i64 0] ∧ Box V (pt) #[.int .i64 t0, .int .i64 t1, .int .i64 t2, .int .i64 t3, .int .i64 t4, .int .i64 t5, .int .i64 t6, .int .i64 t7] ∧ Box V (w11.heap.size) #[.int .i64 m0, .int .i64 p0, .int .i64 p1, .int .i64 p2, .int .i64 e5, .int .i64 e6, .int .i64 e7, .int .i64 e0, .int .i64 1, .bool false]) ⟨by (repeat (first | (with_reducible exact Below.refl _ _) | (with_reducible assumption) | (with_reducible refine Near.up _ ?_) | (with_reducible refine Below.drew ?_) | (with_reducible refine below_alloc_on ?_ _) | (with_reducible refine below_set_on ?_ (by first | (simp; done) | (simp; omega) | omega) _))), box_cast (by (repeat (first | (with_reducible assumption) | (with_reducible exact box_new _ _ _) | ((with_reducible apply box_at); (first | (with_reducible rfl) | (simp <;> omega))) | (with_reducible apply Box.drew) | (with_reducible apply Box.drewN) | (with_reducible apply Box.near) | (with_reducible apply Box.alloc) | ((with_reducible apply box_far); (first | assumption | omega | (simp <;> omega))) | ((with_reducible apply Box.one_set); (with_reducible assumption)) | ((with_reducible apply Box.two_set); (with_reducible assumption)) | ((with_reducible apply Box.three_set); (with_reducible assumption)) | (with_reducible apply Box.set) | (simp only [List.size_toArray, List.length_cons, List.length_nil, Array.size_setIfInBounds] <;> omega)))) (by first | rfl | simp), box_cast (by (repeat (first | (with_reducible assumption) | (with_reducible exact box_new _ _ _) | ((with_reducible apply box_at); (first | (with_reducible rfl) | (simp <;> omega))) | (with_reducible apply Box.drew) | (with_reducible apply Box.drewN) | (with_reducible apply Box.near) | (with_reducible apply Box.alloc) | ((with_reducible apply box_far); (first | assumption | omega | (simp <;> omega))) | ((with_reducible apply Box.one_set); (with_reducible assumption)) | ((with_reducible apply Box.two_set); (with_reducible assumption)) | ((with_reducible apply Box.three_set); (with_reducible assumption)) | (with_reducible apply Box.set) | (simp only [List.size_toArray, List.length_cons, List.length_nil, Array.size_setIfInBounds] <;> omega)))) (by first | rfl | simp), box_cast (by (repeat (first | (with_reducible assumption) | (with_reducible exact box_new _ _ _) | ((with_reducible apply box_at); (first | (with_reducible rfl) | (simp <;> omega))) | (with_reducible apply Box.drew) | (with_reducible apply Box.drewN) | (with_reducible apply Box.near) | (with_reducible apply Box.alloc) | ((with_reducible apply box_far); (first | assumption | omega | (simp <;> omega))) | ((with_reducible apply Box.one_set); (with_reducible assumption)) | ((with_reducible apply Box.two_set); (with_reducible assumption)) | ((with_reducible apply Box.three_set); (with_reducible assumption)) | (with_reducible apply Box.set) | (simp only [List.size_toArray, List.length_cons, List.length_nil, Array.size_setIfInBounds] <;> omega)))) (by first | rfl | simp), box_cast (by (repeat (first | (with_reducible assumption) | (with_reducible exact box_new _ _ _) | ((with_reducible apply box_at); (first | (with_reducible rfl) | (simp <;> omega))) | (with_reducible apply Box.drew) | (with_reducible apply Box.drewN) | (with_reducible apply Box.near) | (with_reducible apply Box.alloc) | ((with_reducible apply box_far); (first | assumption | omega | (simp <;> omega))) | ((with_reducible apply Box.one_set); (with_reducible assumption)) | ((with_reducible apply Box.two_set); (with_reducible assumption)) | ((with_reducible apply Box.three_set); (with_reducible assumption)) | (with_reducible apply Box.set) | (simp only [List.size_toArray, List.length_cons, List.length_nil, Array.size_setIfInBounds] <;> omega)))) (by first | rfl | simp), box_cast (by (repeat (first | (with_reducible assumption) | (with_reducible exact box_new _ _ _) | ((with_reducible apply box_at); (first | (with_reducible rfl) | (simp <;> omega))) | (with_reducible apply Box.drew) | (with_reducible apply Box.drewN) | (with_reducible apply Box.near) | (with_reducible apply Box.alloc) | ((with_reducible apply box_far); (first | assumption | omega | (simp <;> omega))) | ((with_reducible apply Box.one_set); (with_reducible assumption)) | ((with_reducible apply Box.two_set); (with_reducible assumption)) | ((with_reducible apply Box.three_set); (with_reducible assumption)) | (with_reducible apply Box.set) | (simp only [List.size_toArray, List.length_cons, List.length_nil, Array.size_setIfInBounds] <;> omega)))) (by first | rfl | simp)⟩ ?_
                clear A X_pe l_pe c_pe f_pe X_pd l_pd c_pd f_pd X_pg l_pg c_pg f_pg X_pt l_pt c_pt f_pt
                rintro w12 ⟨A, X_pe, X_pd, X_pg, X_pt, X_pc⟩
                obtain ⟨pc, h_pc⟩ : ∃ pc, w11.heap.size = pc := ⟨_, rfl⟩
                have o_pc : W.heap.size ≤ pc := by omega
                rw [h_pc] at X_pc n_pe_pc n_pc_pe n_pd_pc n_pc_pd n_pg_pc n_pc_pg n_pt_pc n_pc_pt
                simp only [h_pc]
                clear h_pc z_pc
                obtain ⟨l_pe, c_pe, f_pe⟩ := id X_pe
                obtain ⟨l_pd, c_pd, f_pd⟩ := id X_pd
                obtain ⟨l_pg, c_pg, f_pg⟩ := id X_pg
                obtain ⟨l_pt, c_pt, f_pt⟩ := id X_pt
                obtain ⟨l_pc, c_pc, f_pc⟩ := id X_pc
                go_wp2_with (fail)
                refine (law40_awake _).mono ?_
                rintro e w13 ⟨rfl, hb⟩
                replace A := below_call A hb
                clear l_pe c_pe f_pe
                replace X_pe := X_pe.below hb
                clear l_pd c_pd f_pd
                replace X_pd := X_pd.below hb
                clear l_pg c_pg f_pg
                replace X_pg := X_pg.below hb
                clear l_pt c_pt f_pt
                replace X_pt := X_pt.below hb
                clear l_pc c_pc f_pc
                replace X_pc := X_pc.below hb
                clear hb
                obtain ⟨l_pe, c_pe, f_pe⟩ := id X_pe
                obtain ⟨l_pd, c_pd, f_pd⟩ := id X_pd
                obtain ⟨l_pg, c_pg, f_pg⟩ := id X_pg
                obtain ⟨l_pt, c_pt, f_pt⟩ := id X_pt
                obtain ⟨l_pc, c_pc, f_pc⟩ := id X_pc
                go_wp2
                all_goals go_ret
                all_goals exact ⟨rfl, A⟩
end Go.Proofs.Ythibaehiponfnaa.reviveFinds
