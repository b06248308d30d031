/- The law's awake. -/
import Derived.Test.YtjhdlcemeemlhaaSame
namespace Go.Proofs.Ytjhdlcemeemlhaa
open Go.RowKit Go.Maps
set_option linter.unusedVariables false
set_option linter.unusedSimpArgs false
set_option maxRecDepth 100000
attribute [local go_sem] cell_set_ite

def awF : Nat → Ou
  | 0 => ⟨0, 0, 0, 0, 0, 0, 5, 0, 0, false, ⟨#[]⟩⟩
  | 1 => ⟨1, 0, 0, 0, 0, 0, 9, 0, 7, true, ⟨#[]⟩⟩
  | 2 => ⟨6000, 0, 0, 0, 0, 0, 0, 0, 0, true, ⟨#[]⟩⟩
  | _ => ⟨0, 0, 0, 0, 0, 0, 0, 0, 3, false, ⟨#[]⟩⟩
def awL : List Bk := [⟨0, 0, 2, 1, 5, 9, 7⟩, ⟨0, 1, 1, 1, 0, 0, 0⟩, ⟨1, 0, 1, 0, 0, 0, 3⟩]
theorem aw_all : (ofS awF 4).all = awL := by rfl
theorem aw_tk : tkV (atL awL) 3 = 4 := by decide
theorem aw_dp : dpV (atL awL) 3 = 2 := by decide
def awC : Array Value := ((ouC (awF 0)) ++ (ouC (awF 1)) ++ (ouC (awF 2)) ++ (ouC (awF 3))).toArray
theorem aw_ous (w : World) (t : TypeId) : Ous (w.alloc (.cells awC t)) (some ⟨w.heap.size, 0, none⟩) 4 awF := by
  have B := box_new w awC t
  refine ⟨fun i hi => ?_, fun _ => ⟨w.heap.size, 0, rfl, B.1, fun i hi j hj => ?_⟩⟩
  · match i, hi with
    | 0, _ => decide
    | 1, _ => decide
    | 2, _ => decide
    | 3, _ => decide
  · have e := B.2.1 (i * 11 + j)
    rw [Nat.zero_add]
    refine e.trans ?_
    match i, hi with
    | 0, _ => match j, hj with | 0, _ | 1, _ | 2, _ | 3, _ | 4, _ | 5, _ | 6, _ | 7, _ | 8, _ | 9, _ | 10, _ => rfl
    | 1, _ => match j, hj with | 0, _ | 1, _ | 2, _ | 3, _ | 4, _ | 5, _ | 6, _ | 7, _ | 8, _ | 9, _ | 10, _ => rfl
    | 2, _ => match j, hj with | 0, _ | 1, _ | 2, _ | 3, _ | 4, _ | 5, _ | 6, _ | 7, _ | 8, _ | 9, _ | 10, _ => rfl
    | 3, _ => match j, hj with | 0, _ | 1, _ | 2, _ | 3, _ | 4, _ | 5, _ | 6, _ | 7, _ | 8, _ | 9, _ | 10, _ => rfl
set_option maxHeartbeats 2000000 in
theorem l54_awake (w : World) : Calls Try.prog 4 #[] w fun e w' => e = .returned (.bool true) ∧ Below w.heap.size w w' := by
  have D0 : Below w.heap.size w w := Below.refl _ _
  have KO := Lib.hid (tr_of _ 4 4 awF _ (aw_ous w 31) (Nat.le_refl _) (by omega))
  rw [aw_all] at KO
  have HTK := Lib.hid aw_tk
  have HDP := Lib.hid aw_dp
  go_enter Try.func4, Try.ntmps4
  go_wp2_with (fail)
  refine KO.out.mono ?_
  rintro e w1 ⟨B, d, rfl, hd, hbk, b1⟩
  have A1 : Below w.heap.size w w1 := below_call (by (repeat (first | (with_reducible exact Below.refl _ _) | (with_reducible assumption) | (with_reducible refine Near.up _ ?_) | (with_reducible refine Below.drew ?_) | (with_reducible refine below_alloc_on ?_ _) | (with_reducible refine below_set_on ?_ (by first | (simp; done) | (simp; omega) | omega) _)))) b1
  have KS := Lib.hid (tr_sum B 3 d (atL awL) w1 hbk hd (by omega))
  rw [HTK.out, HDP.out] at KS
  obtain ⟨bb, off, rfl, hb, hcell⟩ := hbk.at_ (by decide)
  have HC := Lib.hid hcell
  clear b1 hbk hcell
  go_wp2_with (fail)
  refine KS.out.mono ?_
  rintro e w2 ⟨rfl, b2⟩
  obtain ⟨q0, q1, q2, q3, q4, q5, q6⟩ := HC.out 0 (by decide)
  obtain ⟨r0, r1, r2, r3, r4, r5, r6⟩ := HC.out 1 (by decide)
  obtain ⟨s0, s1, s2, s3, s4, s5, s6⟩ := HC.out 2 (by decide)
  have c0 := (b2.cell (p := ⟨bb, off, none⟩) hb).trans q0
  have c1 := (b2.cell (p := ⟨bb, off + 1, none⟩) hb).trans q1
  have c2 := (b2.cell (p := ⟨bb, off + 2, none⟩) hb).trans q2
  have c3 := (b2.cell (p := ⟨bb, off + 3, none⟩) hb).trans q3
  have c4 := (b2.cell (p := ⟨bb, off + 4, none⟩) hb).trans q4
  have c5 := (b2.cell (p := ⟨bb, off + 5, none⟩) hb).trans q5
  have c6 := (b2.cell (p := ⟨bb, off + 6, none⟩) hb).trans q6
  have d1 := (b2.cell (p := ⟨bb, off + 7 + 1, none⟩) hb).trans r1
  have e0 := (b2.cell (p := ⟨bb, off + 14, none⟩) hb).trans s0
  have e1 := (b2.cell (p := ⟨bb, off + 14 + 1, none⟩) hb).trans s1
  have e2 := (b2.cell (p := ⟨bb, off + 14 + 2, none⟩) hb).trans s2
  have e3 := (b2.cell (p := ⟨bb, off + 14 + 3, none⟩) hb).trans s3
  have e4 := (b2.cell (p := ⟨bb, off + 14 + 4, none⟩) hb).trans s4
  have e5 := (b2.cell (p := ⟨bb, off + 14 + 5, none⟩) hb).trans s5
  have e6 := (b2.cell (p := ⟨bb, off + 14 + 6, none⟩) hb).trans s6
  clear q0 q1 q2 q3 q4 q5 q6 r0 r1 r2 r3 r4 r5 r6 s0 s1 s2 s3 s4 s5 s6
  simp only [awL, atL, List.getD_cons_zero, List.getD_cons_succ] at c0 c1 c2 c3 c4 c5 c6 d1 e0 e1 e2 e3 e4 e5 e6
  have A2 := below_call A1 b2
  go_wp2_with (fail)
  all_goals go_ret
  all_goals exact ⟨rfl, by (repeat (first | (with_reducible exact Below.refl _ _) | (with_reducible assumption) | (with_reducible refine Near.up _ ?_) | (with_reducible refine Below.drew ?_) | (with_reducible refine below_alloc_on ?_ _) | (with_reducible refine below_set_on ?_ (by first | (simp; done) | (simp; omega) | omega) _)))⟩
end Go.Proofs.Ytjhdlcemeemlhaa
