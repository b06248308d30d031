/- The guard's numbers: bits, lengths, what the law package's awake wants. -/
import Derived.Test.YtmocppghmdeahaaGreatGuardB
import Derived.Test.YtmocppghmdeahaaGreatLatM
namespace Go.Proofs.YtmocppghmdeahaaGreat
open Go.RowKit
set_option linter.unusedVariables false
set_option linter.unusedSimpArgs false
set_option maxRecDepth 100000

theorem or_bit (a b : Int) (k : Nat) : bitI (bits .or .i64 a b) k = (bitI a k || bitI b k) := by
  unfold bitI; rw [or_bv, bv_int, BitVec.getLsbD_or]
theorem and_bit (a b : Int) (k : Nat) : bitI (bits .and .i64 a b) k = (bitI a k && bitI b k) := by
  unfold bitI; rw [and_bv, bv_int, BitVec.getLsbD_and]
theorem if_bit (b : Bool) (a h : Int) (k : Nat) : bitI (if b = true then bits .or .i64 a h else a) k = (bitI a k || (b && bitI h k)) := by
  cases b
  · simp
  · rw [if_pos rfl, or_bit]; simp
/-- The bit of one hazard in what is held. -/
theorem he_bit4 (b0 b1 b2 b3 b4 b5 b6 b7 b8 b9 ba bb : Bool) :
    bitI (smV [(1, b0), (2, b1), (4, b2), (8, b3), (16, b4), (32, b5), (64, b6), (128, b7), (256, b8), (512, b9), (1024, ba), (2048, bb)]) 4 = b4 := by
  unfold smV
  simp only [List.foldl_cons, List.foldl_nil, if_bit, show bitI 0 4 = false by decide, show bitI 1 4 = false by decide, show bitI 2 4 = false by decide, show bitI 4 4 = false by decide, show bitI 8 4 = false by decide, show bitI 16 4 = true by decide, show bitI 32 4 = false by decide, show bitI 64 4 = false by decide, show bitI 128 4 = false by decide, show bitI 256 4 = false by decide, show bitI 512 4 = false by decide, show bitI 1024 4 = false by decide, show bitI 2048 4 = false by decide]
  simp
theorem la_bit4 (was held : Int) (k : Lk) (hk : k.ak = false) (h3 : k.m = 3) : bitI (laV was held k) 4 = (bitI was 4 || bitI held 4) := by
  unfold laV
  rw [hk, if_neg (by simp), h3, ra_bit _ _ 4 (by omega), and_bit, show arV 3 = 4095 from rfl, show bitI 4095 4 = true by decide, Bool.and_true]
theorem pn_len (xs : List Int) (t : Int) (dr : Bool) (li : Int) : (pnL xs t dr li).length ≤ 512 := by
  unfold pnL
  cases dr
  · rw [if_neg (by simp)]
    unfold lastL
    rw [List.length_drop]
    unfold cntV
    split <;> (try split) <;> omega
  · rw [if_pos rfl]
    exact pushL_len _ _ _

/-! ### awake -/
def lk1 : Lk := ⟨0, 3, 60, 100, 20, false, false, false, false, 0, 0, 4000, 0, true, 0, false, 0, 0, false, 0, false, false, false⟩
def lk2 : Lk := ⟨0, 1, 60, 100, 20, false, false, false, false, 0, 0, 4000, 0, true, 0, false, 0, 0, false, 0, false, false, false⟩
def lk3 : Lk := ⟨0, 7, 60, 100, 20, false, false, false, false, 0, 0, 4000, 0, false, 0, false, 0, 0, false, 0, false, false, true⟩
theorem aw1 (w : World) : Calls Tryz.prog 5 #[.agg #[.int .i64 0, .int .i64 0, .int .i64 0, .int .i64 0, .int .i64 0, .int .i64 0, .slice none 0 0, .int .i64 0], .agg (lkC lk1)] w fun e w' => ∃ B d, e = .returned (.tuple #[.agg #[.int .i64 0, .int .i64 0, .int .i64 1, .int .i64 0, .int .i64 0, .int .i64 0, .slice B 0 d, .int .i64 128], .int .i64 128]) ∧ 0 ≤ d ∧ Ints w' B 0 [] ∧ (∀ b o, B = some ⟨b, o, none⟩ → w.heap.size ≤ b) ∧ Below w.heap.size w w' := by
  have h := g_step none 0 0 [] 0 0 0 0 0 0 0 lk1 w ⟨rfl, fun h => absurd h (by omega)⟩ (by omega) (by omega) [] (by decide +kernel) 0 rfl 128 (by decide +kernel)
  rw [show drA 0 0 lk1 = 0 by decide +kernel, show drB 0 0 lk1 = 0 by decide +kernel, show loS 0 (inB lk1.m) lk1.dr = 1 by decide +kernel, show loW 0 (inB lk1.m) (svB lk1) = 0 by decide +kernel, show poT 0 lk1.ti = 0 by decide +kernel, show poB 0 lk1.ba = 0 by decide +kernel, show laV 0 128 lk1 = 128 by decide +kernel] at h
  exact h
theorem aw2 (w : World) : Calls Tryz.prog 5 #[.agg #[.int .i64 0, .int .i64 0, .int .i64 0, .int .i64 0, .int .i64 0, .int .i64 0, .slice none 0 0, .int .i64 0], .agg (lkC lk2)] w fun e w' => ∃ B d, e = .returned (.tuple #[.agg #[.int .i64 0, .int .i64 0, .int .i64 0, .int .i64 0, .int .i64 0, .int .i64 0, .slice B 0 d, .int .i64 0], .int .i64 128]) ∧ 0 ≤ d ∧ Ints w' B 0 [] ∧ (∀ b o, B = some ⟨b, o, none⟩ → w.heap.size ≤ b) ∧ Below w.heap.size w w' := by
  have h := g_step none 0 0 [] 0 0 0 0 0 0 0 lk2 w ⟨rfl, fun h => absurd h (by omega)⟩ (by omega) (by omega) [] (by decide +kernel) 0 rfl 128 (by decide +kernel)
  rw [show drA 0 0 lk2 = 0 by decide +kernel, show drB 0 0 lk2 = 0 by decide +kernel, show loS 0 (inB lk2.m) lk2.dr = 0 by decide +kernel, show loW 0 (inB lk2.m) (svB lk2) = 0 by decide +kernel, show poT 0 lk2.ti = 0 by decide +kernel, show poB 0 lk2.ba = 0 by decide +kernel, show laV 0 128 lk2 = 0 by decide +kernel] at h
  exact h
theorem aw3 (B : Option Addr) (d : Nat) (w : World) (hi : Ints w B 0 []) : Calls Tryz.prog 5 #[.agg #[.int .i64 0, .int .i64 0, .int .i64 1, .int .i64 0, .int .i64 0, .int .i64 0, .slice B 0 d, .int .i64 128], .agg (lkC lk3)] w fun e w' => ∃ C d', e = .returned (.tuple #[.agg #[.int .i64 0, .int .i64 0, .int .i64 0, .int .i64 0, .int .i64 0, .int .i64 0, .slice C 0 d', .int .i64 0], .int .i64 0]) ∧ 0 ≤ d' ∧ Ints w' C 0 [] ∧ (∀ b o, C = some ⟨b, o, none⟩ → w.heap.size ≤ b) ∧ Below w.heap.size w w' := by
  have h := g_step B 0 d [] 0 0 1 0 0 0 128 lk3 w hi (by omega) (by omega) [] (by decide +kernel) 0 rfl 0 (by decide +kernel)
  rw [show drA 0 0 lk3 = 0 by decide +kernel, show drB 0 0 lk3 = 0 by decide +kernel, show loS 1 (inB lk3.m) lk3.dr = 0 by decide +kernel, show loW 0 (inB lk3.m) (svB lk3) = 0 by decide +kernel, show poT 0 lk3.ti = 0 by decide +kernel, show poB 0 lk3.ba = 0 by decide +kernel, show laV 128 0 lk3 = 0 by decide +kernel] at h
  exact h

set_option maxHeartbeats 4000000 in
theorem law35_awake (w : World) : Calls Tryz.prog 4 #[] w fun e w' => e = .returned (.bool true) ∧ Below w.heap.size w w' := by
  have H1 := Lib.hid (fun w => aw1 w)
  have H2 := Lib.hid (fun w => aw2 w)
  have H3 := Lib.hid (fun B d w hi => aw3 B d w hi)
  have G3 := fun w => g_goal 3 60 100 20 w
  have G5 := fun w => g_goal 5 60 100 20 w
  have G4 := fun w => g_goal 4 60 100 20 w
  rw [show gaV 3 60 = 60000 by decide +kernel] at G3
  rw [show gaV 5 60 = 5000 by decide +kernel] at G5
  rw [show gaV 4 60 = 0 by decide +kernel] at G4
  have G3 := Lib.hid G3
  have G5 := Lib.hid G5
  have G4 := Lib.hid G4
  have GA := Lib.hid (fun w => g_arm 1 w)
  unfold lkC lk1 at H1
  unfold lkC lk2 at H2
  unfold lkC lk3 at H3
  have A0 : Below w.heap.size w w := Below.refl _ _
  go_enter Tryz.func4, Tryz.ntmps4
  go_upto_region 2 with (fail)
  refine at_world (fun W => Below w.heap.size w W ∧ Box W w.heap.size #[.int .i64 60, .int .i64 100, .int .i64 20]) ⟨by (repeat (first | (with_reducible exact Below.refl _ _) | (with_reducible assumption) | (with_reducible refine Near.up _ ?_) | (with_reducible refine Below.drew ?_) | (with_reducible refine below_alloc_on ?_ _) | (with_reducible refine below_set_on ?_ (by first | (simp; done) | (simp; omega) | omega) _))), by (repeat (first | (with_reducible assumption) | (with_reducible exact box_new _ _ _) | ((with_reducible apply box_at); (first | (with_reducible rfl) | (simp <;> omega))) | (with_reducible apply Box.drew) | (with_reducible apply Box.drewN) | (with_reducible apply Box.near) | (with_reducible apply Box.alloc) | ((with_reducible apply box_far); (first | assumption | omega | (simp <;> omega))) | ((with_reducible apply Box.one_set); (with_reducible assumption)) | ((with_reducible apply Box.two_set); (with_reducible assumption)) | ((with_reducible apply Box.three_set); (with_reducible assumption)) | (with_reducible apply Box.set) | (simp only [List.size_toArray, List.length_cons, List.length_nil, Array.size_setIfInBounds] <;> omega)))⟩ ?_
  clear A0
  rintro w1 ⟨A1, P⟩
  obtain ⟨p, hp⟩ : ∃ p, w.heap.size = p := ⟨_, rfl⟩
  have op : w.heap.size ≤ p := by omega
  rw [hp] at P
  simp only [hp]
  clear hp
  have cp := P.2.1
  have lp := P.1
  go_wp2_with (fail)
  refine (H1.out _).mono ?_
  rintro e w2 ⟨B, d, rfl, hd, hi, _, hb⟩
  have A2 := below_call A1 hb
  have P2 := P.below hb
  have HI := Lib.hid hi
  clear hb A1 P cp lp hi
  have cp := P2.2.1
  have lp := P2.1
  go_upto_region 3 with (fail)
  refine at_world (fun W => Below w.heap.size w W ∧ Box W p #[.int .i64 60, .int .i64 100, .int .i64 20] ∧ Box W w2.heap.size #[.int .i64 0, .int .i64 0, .int .i64 1, .int .i64 0, .int .i64 0, .int .i64 0, .slice B 0 d, .int .i64 128] ∧ Ints W B 0 []) ⟨by (repeat (first | (with_reducible exact Below.refl _ _) | (with_reducible assumption) | (with_reducible refine Near.up _ ?_) | (with_reducible refine Below.drew ?_) | (with_reducible refine below_alloc_on ?_ _) | (with_reducible refine below_set_on ?_ (by first | (simp; done) | (simp; omega) | omega) _))), by (repeat (first | (with_reducible assumption) | (with_reducible exact box_new _ _ _) | ((with_reducible apply box_at); (first | (with_reducible rfl) | (simp <;> omega))) | (with_reducible apply Box.drew) | (with_reducible apply Box.drewN) | (with_reducible apply Box.near) | (with_reducible apply Box.alloc) | ((with_reducible apply box_far); (first | assumption | omega | (simp <;> omega))) | ((with_reducible apply Box.one_set); (with_reducible assumption)) | ((with_reducible apply Box.two_set); (with_reducible assumption)) | ((with_reducible apply Box.three_set); (with_reducible assumption)) | (with_reducible apply Box.set) | (simp only [List.size_toArray, List.length_cons, List.length_nil, Array.size_setIfInBounds] <;> omega))), by (repeat (first | (with_reducible assumption) | (with_reducible exact box_new _ _ _) | ((with_reducible apply box_at); (first | (with_reducible rfl) | (simp <;> omega))) | (with_reducible apply Box.drew) | (with_reducible apply Box.drewN) | (with_reducible apply Box.near) | (with_reducible apply Box.alloc) | ((with_reducible apply box_far); (first | assumption | omega | (simp <;> omega))) | ((with_reducible apply Box.one_set); (with_reducible assumption)) | ((with_reducible apply Box.two_set); (with_reducible assumption)) | ((with_reducible apply Box.three_set); (with_reducible assumption)) | (with_reducible apply Box.set) | (simp only [List.size_toArray, List.length_cons, List.length_nil, Array.size_setIfInBounds] <;> omega))), ⟨rfl, fun h => absurd h (by omega)⟩⟩ ?_
  clear A2 P2 cp lp HI
  rintro w3 ⟨A3, P3, G, HI⟩
  have HI := Lib.hid HI
  obtain ⟨g, hg⟩ : ∃ g, w2.heap.size = g := ⟨_, rfl⟩
  rw [hg] at G
  simp only [hg]
  clear hg
  have cp := P3.2.1
  have lp := P3.1
  go_wp2_with (fail)
  refine (H2.out _).mono ?_
  rintro e w4 ⟨B2, d2, rfl, hd2, hi2, _, hb⟩
  have A4 := below_call A3 hb
  have P4 := P3.below hb
  have G4' := G.below hb
  have HI := Lib.hid (HI.out.below hb)
  clear hb A3 P3 G cp lp hi2
  go_upto_region 4 with (fail)
  refine at_world (fun W => Below w.heap.size w W ∧ Box W p #[.int .i64 60, .int .i64 100, .int .i64 20] ∧ Box W g #[.int .i64 0, .int .i64 0, .int .i64 1, .int .i64 0, .int .i64 0, .int .i64 0, .slice B 0 d, .int .i64 128] ∧ Box W w4.heap.size #[.int .i64 0, .int .i64 0, .int .i64 0, .int .i64 0, .int .i64 0, .int .i64 0, .slice B2 0 d2, .int .i64 0] ∧ Ints W B 0 []) ⟨by (repeat (first | (with_reducible exact Below.refl _ _) | (with_reducible assumption) | (with_reducible refine Near.up _ ?_) | (with_reducible refine Below.drew ?_) | (with_reducible refine below_alloc_on ?_ _) | (with_reducible refine below_set_on ?_ (by first | (simp; done) | (simp; omega) | omega) _))), by (repeat (first | (with_reducible assumption) | (with_reducible exact box_new _ _ _) | ((with_reducible apply box_at); (first | (with_reducible rfl) | (simp <;> omega))) | (with_reducible apply Box.drew) | (with_reducible apply Box.drewN) | (with_reducible apply Box.near) | (with_reducible apply Box.alloc) | ((with_reducible apply box_far); (first | assumption | omega | (simp <;> omega))) | ((with_reducible apply Box.one_set); (with_reducible assumption)) | ((with_reducible apply Box.two_set); (with_reducible assumption)) | ((with_reducible apply Box.three_set); (with_reducible assumption)) | (with_reducible apply Box.set) | (simp only [List.size_toArray, List.length_cons, List.length_nil, Array.size_setIfInBounds] <;> omega))), by (repeat (first | (with_reducible assumption) | (with_reducible exact box_new _ _ _) | ((with_reducible apply box_at); (first | (with_reducible rfl) | (simp <;> omega))) | (with_reducible apply Box.drew) | (with_reducible apply Box.drewN) | (with_reducible apply Box.near) | (with_reducible apply Box.alloc) | ((with_reducible apply box_far); (first | assumption | omega | (simp <;> omega))) | ((with_reducible apply Box.one_set); (with_reducible assumption)) | ((with_reducible apply Box.two_set); (with_reducible assumption)) | ((with_reducible apply Box.three_set); (with_reducible assumption)) | (with_reducible apply Box.set) | (simp only [List.size_toArray, List.length_cons, List.length_nil, Array.size_setIfInBounds] <;> omega))), by (repeat (first | (with_reducible assumption) | (with_reducible exact box_new _ _ _) | ((with_reducible apply box_at); (first | (with_reducible rfl) | (simp <;> omega))) | (with_reducible apply Box.drew) | (with_reducible apply Box.drewN) | (with_reducible apply Box.near) | (with_reducible apply Box.alloc) | ((with_reducible apply box_far); (first | assumption | omega | (simp <;> omega))) | ((with_reducible apply Box.one_set); (with_reducible assumption)) | ((with_reducible apply Box.two_set); (with_reducible assumption)) | ((with_reducible apply Box.three_set); (with_reducible assumption)) | (with_reducible apply Box.set) | (simp only [List.size_toArray, List.length_cons, List.length_nil, Array.size_setIfInBounds] <;> omega))), ⟨rfl, fun h => absurd h (by omega)⟩⟩ ?_
  clear A4 P4 G4' HI
  rintro w5 ⟨A5, P5, G5', J5, HI⟩
  have HI := Lib.hid HI
  obtain ⟨j, hj⟩ : ∃ j, w4.heap.size = j := ⟨_, rfl⟩
  rw [hj] at J5
  simp only [hj]
  clear hj
  have cp := P5.2.1
  have lp := P5.1
  have cg := G5'.2.1
  have lg := G5'.1
  go_wp2_with (fail)
  refine (H3.out _ _ _ HI.out).mono ?_
  rintro e w6 ⟨B3, d3, rfl, hd3, hi3, _, hb⟩
  have A6 := below_call A5 hb
  have P6 := P5.below hb
  have G6 := G5'.below hb
  have J6 := J5.below hb
  clear hb A5 P5 G5' J5 cp lp cg lg hi3 HI
  go_upto_region 5 with (fail)
  refine at_world (fun W => Below w.heap.size w W ∧ Box W p #[.int .i64 60, .int .i64 100, .int .i64 20] ∧ Box W g #[.int .i64 0, .int .i64 0, .int .i64 1, .int .i64 0, .int .i64 0, .int .i64 0, .slice B 0 d, .int .i64 128] ∧ Box W j #[.int .i64 0, .int .i64 0, .int .i64 0, .int .i64 0, .int .i64 0, .int .i64 0, .slice B2 0 d2, .int .i64 0] ∧ Box W w6.heap.size #[.int .i64 0, .int .i64 0, .int .i64 0, .int .i64 0, .int .i64 0, .int .i64 0, .slice B3 0 d3, .int .i64 0]) ⟨by (repeat (first | (with_reducible exact Below.refl _ _) | (with_reducible assumption) | (with_reducible refine Near.up _ ?_) | (with_reducible refine Below.drew ?_) | (with_reducible refine below_alloc_on ?_ _) | (with_reducible refine below_set_on ?_ (by first | (simp; done) | (simp; omega) | omega) _))), by (repeat (first | (with_reducible assumption) | (with_reducible exact box_new _ _ _) | ((with_reducible apply box_at); (first | (with_reducible rfl) | (simp <;> omega))) | (with_reducible apply Box.drew) | (with_reducible apply Box.drewN) | (with_reducible apply Box.near) | (with_reducible apply Box.alloc) | ((with_reducible apply box_far); (first | assumption | omega | (simp <;> omega))) | ((with_reducible apply Box.one_set); (with_reducible assumption)) | ((with_reducible apply Box.two_set); (with_reducible assumption)) | ((with_reducible apply Box.three_set); (with_reducible assumption)) | (with_reducible apply Box.set) | (simp only [List.size_toArray, List.length_cons, List.length_nil, Array.size_setIfInBounds] <;> omega))), by (repeat (first | (with_reducible assumption) | (with_reducible exact box_new _ _ _) | ((with_reducible apply box_at); (first | (with_reducible rfl) | (simp <;> omega))) | (with_reducible apply Box.drew) | (with_reducible apply Box.drewN) | (with_reducible apply Box.near) | (with_reducible apply Box.alloc) | ((with_reducible apply box_far); (first | assumption | omega | (simp <;> omega))) | ((with_reducible apply Box.one_set); (with_reducible assumption)) | ((with_reducible apply Box.two_set); (with_reducible assumption)) | ((with_reducible apply Box.three_set); (with_reducible assumption)) | (with_reducible apply Box.set) | (simp only [List.size_toArray, List.length_cons, List.length_nil, Array.size_setIfInBounds] <;> omega))), by (repeat (first | (with_reducible assumption) | (with_reducible exact box_new _ _ _) | ((with_reducible apply box_at); (first | (with_reducible rfl) | (simp <;> omega))) | (with_reducible apply Box.drew) | (with_reducible apply Box.drewN) | (with_reducible apply Box.near) | (with_reducible apply Box.alloc) | ((with_reducible apply box_far); (first | assumption | omega | (simp <;> omega))) | ((with_reducible apply Box.one_set); (with_reducible assumption)) | ((with_reducible apply Box.two_set); (with_reducible assumption)) | ((with_reducible apply Box.three_set); (with_reducible assumption)) | (with_reducible apply Box.set) | (simp only [List.size_toArray, List.length_cons, List.length_nil, Array.size_setIfInBounds] <;> omega))), by (repeat (first | (with_reducible assumption) | (with_reducible exact box_new _ _ _) | ((with_reducible apply box_at); (first | (with_reducible rfl) | (simp <;> omega))) | (with_reducible apply Box.drew) | (with_reducible apply Box.drewN) | (with_reducible apply Box.near) | (with_reducible apply Box.alloc) | ((with_reducible apply box_far); (first | assumption | omega | (simp <;> omega))) | ((with_reducible apply Box.one_set); (with_reducible assumption)) | ((with_reducible apply Box.two_set); (with_reducible assumption)) | ((with_reducible apply Box.three_set); (with_reducible assumption)) | (with_reducible apply Box.set) | (simp only [List.size_toArray, List.length_cons, List.length_nil, Array.size_setIfInBounds] <;> omega)))⟩ ?_
  clear A6 P6 G6 J6
  rintro w7 ⟨A7, P7, G7, J7, L7⟩
  obtain ⟨i, hi⟩ : ∃ i, w6.heap.size = i := ⟨_, rfl⟩
  rw [hi] at L7
  simp only [hi]
  clear hi
  have cp := P7.2.1
  have lp := P7.1
  have cg := G7.2.1
  have lg := G7.1
  have cj := J7.2.1
  have lj := J7.1
  have ci := L7.2.1
  have li := L7.1
  go_wp2_with (fail)
  refine (G3.out _).mono ?_
  rintro e w8 ⟨rfl, hb⟩
  have A8 := below_call A7 hb
  have P8 := P7.below hb
  clear hb A7 P7 cp lp cg lg cj lj ci li G7 J7 L7
  have cp := P8.2.1
  have lp := P8.1
  go_wp2_with (fail)
  refine (G5.out _).mono ?_
  rintro e w9 ⟨rfl, hb⟩
  have A9 := below_call A8 hb
  have P9 := P8.below hb
  clear hb A8 P8 cp lp
  have cp := P9.2.1
  have lp := P9.1
  go_wp2_with (fail)
  refine (G4.out _).mono ?_
  rintro e w10 ⟨rfl, hb⟩
  have A10 := below_call A9 hb
  clear hb A9 P9 cp lp
  go_wp2_with (go_at_call 8; refine (GA.out _).mono ?_; rintro e w' ⟨rfl, rfl⟩)
  all_goals go_ret
  all_goals exact ⟨rfl, A10⟩
end Go.Proofs.YtmocppghmdeahaaGreat
