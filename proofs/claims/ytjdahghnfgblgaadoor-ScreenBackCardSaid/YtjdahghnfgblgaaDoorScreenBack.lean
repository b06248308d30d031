/- ScreenBack holds of every face, every text of at most 100 bytes, and every byte turned: what is framed is parsed as it was, and the other way round; a frame of which a byte is another one is none. No condition but the tables that are laid. -/
import Derived.Test.YtjdahghnfgblgaaDoorLaid
import Derived.Test.YtjdahghnfgblgaaDoorCards
import Derived.Test.YtjdahghnfgblgaaDoorTie
import Derived.Test.YtjdahghnfgblgaaDoorLaw43
import Derived.Test.YtjdahghnfgblgaaDoorArr
import Derived.ChangeMaps5
import Derived.Deep.DeepCutAuto
namespace Go.Proofs.YtjdahghnfgblgaaDoor.screenBack
open Go.ChangeShapes Go.WideShapes Go.ChangeAt Go.RowKit
set_option linter.unusedVariables false
set_option linter.unusedSimpArgs false
set_option maxRecDepth 100000
attribute [local go_sem] cell_set_ite Near.cell Near.frozen
attribute [local go_sem ↓] Go.wp_at_zero Go.wp_at_succ

theorem turn_at (S : ByteArray) (k : Nat) (x : UInt8) (j : Nat) (hj : j < S.size) : (turnB S k x).data.toList.getD j 0 = if k = j then S[j] ^^^ x else S[j] := by
  have hl : j < S.data.toList.length := by rw [Array.length_toList]; exact hj
  have he : S.data.toList[j] = S[j] := by rw [Array.getElem_toList]; rfl
  rw [turn_list, List.getD_eq_getElem?_getD, List.getElem?_modify, List.getElem?_eq_getElem hl, he]
  by_cases h : k = j
  · simp [h]
  · simp [h]
theorem turn_none (S : ByteArray) (k : Nat) (x : UInt8) (hx : x.toNat = 0) : turnB S k x = S := by
  have hx0 : x = 0 := UInt8.toNat_inj.1 hx
  apply ByteArray.ext
  apply Array.toList_inj.1
  apply List.ext_getElem
  · rw [turn_list, List.length_modify]
  · intro j h1 h2
    have hj : j < S.size := by rw [Array.length_toList] at h2; exact h2
    have := turn_at S k x j hj
    rw [List.getD_eq_getElem?_getD, List.getElem?_eq_getElem h1] at this
    simp only [Option.getD_some] at this
    rw [this, hx0]
    have he : S.data.toList[j] = S[j] := by rw [Array.getElem_toList]; rfl
    rw [he]
    split <;> simp

theorem add_at (g j : Nat) : ((⟨g, 0, none⟩ : Addr).add j) = ⟨g, j, none⟩ := by unfold Addr.add; split <;> simp_all
theorem pk_in : ∀ (xs ws : List Int) (l : List UInt8), xs.length = ws.length → pk xs ws = some l → ∀ x ∈ xs, ∃ w, numB x w = true
  | [], [], l, _, h => by simp
  | x :: xs, w :: ws, l, hl, h => by
    simp only [pk] at h
    split at h
    next hb =>
      obtain ⟨r, hr, rfl⟩ := Option.map_eq_some_iff.1 h
      have ih := pk_in xs ws r (by simpa using hl) hr
      intro z hz
      rcases List.mem_cons.1 hz with rfl | hz
      · exact ⟨w, hb⟩
      · exact ih z hz
    next => cases h
  | [], _ :: _, _, hl, _ => by simp at hl
  | _ :: _, [], _, hl, _ => by simp at hl
theorem num_bd {n w : Int} (h : numB n w = true) : -9223372036854775808 ≤ n ∧ n ≤ 9223372036854775807 := by
  unfold numB at h
  rw [decide_eq_true_eq] at h
  obtain ⟨a, b, c, d⟩ := h
  have hk : 256 ^ w.toNat ≤ 256 ^ 7 := Nat.pow_le_pow_right (by omega) (by omega)
  rw [show (256 : Nat) ^ 7 = 72057594037927936 by decide] at hk
  obtain ⟨P, hP⟩ : ∃ P : Nat, 256 ^ w.toNat = P := ⟨_, rfl⟩
  rw [hP] at hk d
  omega
theorem pk_bd {xs : List Int} (h : pkB xs wsS = true) : ∀ x ∈ xs, -9223372036854775808 ≤ x ∧ x ≤ 9223372036854775807 := by
  unfold pkB at h
  obtain ⟨l, hl⟩ := Option.isSome_iff_exists.1 h
  unfold pkO at hl
  split at hl
  next hc =>
    intro x hx
    obtain ⟨w, hw⟩ := pk_in xs wsS l hc.1 hl x hx
    exact num_bd hw
  next => cases hl

set_option maxHeartbeats 16000000 in
theorem walk (W : World) (f0 : Int) (wf0 : (Lit.int .i64 f0).wf = true) (f1 : Int) (wf1 : (Lit.int .i64 f1).wf = true) (f2 : Int) (wf2 : (Lit.int .i64 f2).wf = true) (f3 : Int) (wf3 : (Lit.int .i64 f3).wf = true) (f4 : Int) (wf4 : (Lit.int .i64 f4).wf = true) (f5 : Int) (wf5 : (Lit.int .i64 f5).wf = true) (f6 : Int) (wf6 : (Lit.int .i64 f6).wf = true) (f7 : Int) (wf7 : (Lit.int .i64 f7).wf = true) (s : ByteArray) (hs : s.size ≤ maxLen) (x0 : Int) (wx0 : (Lit.int .u8 x0).wf = true) (x1 : Int) (wx1 : (Lit.int .u8 x1).wf = true) (hL : laidMetH Tryd.prog Rows.screenBackRow.laid W) :
    Calls Tryd.prog 3 #[.agg #[.int .i64 f0, .int .i64 f1, .int .i64 f2, .int .i64 f3, .int .i64 f4, .int .i64 f5, .int .i64 f6, .int .i64 f7], .string s, .agg #[.int .u8 x0, .int .u8 x1]] W fun e W' => e = .returned (.bool true) ∧ Below W.heap.size W W' := by
  have HT := Lib.hid (sc_tabs hL (by kernel_rfl) (by kernel_rfl) (by kernel_rfl) (by kernel_rfl))
  have A : Below W.heap.size W W := Below.refl _ _
  have HA := Lib.hid (fun w h => law43_awake w h)
  obtain ⟨x, rfl⟩ := crcFinds.byte_of x0 wx0
  obtain ⟨y, rfl⟩ := crcFinds.byte_of x1 wx1
  have hy256 : y.toNat < 256 := UInt8.toNat_lt y
  have hx256 : x.toNat < 256 := UInt8.toNat_lt x
  have hb : ∀ z ∈ [f0, f1, f2, f3, f4, f5, f6, f7], -9223372036854775808 ≤ z ∧ z ≤ 9223372036854775807 := by
    intro z hz
    have hw : ∀ z : Int, (Lit.int .i64 z).wf = true → -9223372036854775808 ≤ z ∧ z ≤ 9223372036854775807 := fun z h => by
      simp only [Lit.wf, IntKind.min, IntKind.max, IntKind.signed, IntKind.bits, Bool.and_eq_true] at h; simpa using h
    simp only [List.mem_cons, List.not_mem_nil, or_false] at hz
    rcases hz with rfl | rfl | rfl | rfl | rfl | rfl | rfl | rfl <;> (apply hw; assumption)
  have HP := Lib.hid (fun w => sc_frame f0 f1 f2 f3 f4 f5 f6 f7 hb w)
  clear hL wx0 wx1 hb wf0 wf1 wf2 wf3 wf4 wf5 wf6 wf7
  by_cases hn : 100 < s.size
  · have t0 : decide (100 < (s.size : Int)) = true := decide_eq_true (by omega)
    go_enter Tryd.func3, Tryd.ntmps3
    go_wp2_with (go_at_call 5; refine (HA.out _ (HT.out.stays (by (repeat (first | (with_reducible exact Below.refl _ _) | (with_reducible assumption) | (with_reducible refine Near.up _ ?_) | (with_reducible refine Below.drew ?_) | (with_reducible refine below_alloc_on ?_ _) | (with_reducible refine below_set_on ?_ (by first | (simp; done) | (simp; omega) | omega) _)))))).mono ?_; rintro e w' ⟨rfl, hb⟩)
    all_goals go_ret
    all_goals exact ⟨rfl, below_call (by (repeat (first | (with_reducible exact Below.refl _ _) | (with_reducible assumption) | (with_reducible refine Near.up _ ?_) | (with_reducible refine Below.drew ?_) | (with_reducible refine below_alloc_on ?_ _) | (with_reducible refine below_set_on ?_ (by first | (simp; done) | (simp; omega) | omega) _)))) hb⟩
  have t0 : decide (100 < (s.size : Int)) = false := decide_eq_false (by omega)
  obtain ⟨S, hS⟩ : ∃ S, fcS [f0, f1, f2, f3, f4, f5, f6, f7] = S := ⟨_, rfl⟩
  obtain ⟨pb, hpb⟩ : ∃ pb, pkB [f0, f1, f2, f3, f4, f5, f6, f7] wsS = pb := ⟨_, rfl⟩
  rw [hS, hpb] at HP
  go_enter Tryd.func3, Tryd.ntmps3
  go_upto_region 3 with (fail)
  refine at_world (fun w => Below W.heap.size W w ∧ Box w W.heap.size #[.int .i64 f0, .int .i64 f1, .int .i64 f2, .int .i64 f3, .int .i64 f4, .int .i64 f5, .int .i64 f6, .int .i64 f7] ∧ Box w (W.heap.size + 1) #[.int .u8 x.toNat, .int .u8 y.toNat]) ⟨by (repeat (first | (with_reducible exact Below.refl _ _) | (with_reducible assumption) | (with_reducible refine Near.up _ ?_) | (with_reducible refine Below.drew ?_) | (with_reducible refine below_alloc_on ?_ _) | (with_reducible refine below_set_on ?_ (by first | (simp; done) | (simp; omega) | omega) _))), by (repeat (first | (with_reducible assumption) | (with_reducible exact box_new _ _ _) | ((with_reducible apply box_at); (first | (with_reducible rfl) | (simp <;> omega))) | (with_reducible apply Box.drew) | (with_reducible apply Box.drewN) | (with_reducible apply Box.near) | (with_reducible apply Box.alloc) | ((with_reducible apply box_far); (first | assumption | omega | (simp <;> omega))) | ((with_reducible apply Box.one_set); (with_reducible assumption)) | ((with_reducible apply Box.two_set); (with_reducible assumption)) | ((with_reducible apply Box.three_set); (with_reducible assumption)) | (with_reducible apply Box.set) | (simp only [List.size_toArray, List.length_cons, List.length_nil, Array.size_setIfInBounds] <;> omega))), by (repeat (first | (with_reducible assumption) | (with_reducible exact box_new _ _ _) | ((with_reducible apply box_at); (first | (with_reducible rfl) | (simp <;> omega))) | (with_reducible apply Box.drew) | (with_reducible apply Box.drewN) | (with_reducible apply Box.near) | (with_reducible apply Box.alloc) | ((with_reducible apply box_far); (first | assumption | omega | (simp <;> omega))) | ((with_reducible apply Box.one_set); (with_reducible assumption)) | ((with_reducible apply Box.two_set); (with_reducible assumption)) | ((with_reducible apply Box.three_set); (with_reducible assumption)) | (with_reducible apply Box.set) | (simp only [List.size_toArray, List.length_cons, List.length_nil, Array.size_setIfInBounds] <;> omega)))⟩ ?_
  clear A
  rintro w1 ⟨A1, P1, X1⟩
  obtain ⟨p, hp⟩ : ∃ p, W.heap.size = p := ⟨_, rfl⟩
  have op : W.heap.size ≤ p := by omega
  rw [hp] at P1 X1
  simp only [hp]
  clear hp
  obtain ⟨q, hq⟩ : ∃ q, p + 1 = q := ⟨_, rfl⟩
  rw [hq] at X1
  simp only [hq]
  have oq : W.heap.size ≤ q := by omega
  clear hq
  have cp := P1.2.1
  have lp := P1.1
  go_wp2_with (fail)
  refine (HP.out _).mono ?_
  rintro e w2 ⟨rfl, hb⟩
  have A2 := below_call A1 hb
  have P2 := P1.below hb
  have X2 := X1.below hb
  clear hb A1 P1 X1 cp lp
  go_upto_if 27 with (fail)
  go_cut [] (fun wx => Below W.heap.size W wx)
  case first =>
    cases pb
    · have HA2 := Lib.hid A2
      clear A2 P2 X2
      go_wp2
      go_meet
      exact HA2.out
    · have hS17 : S.size = 17 := by rw [← hS]; exact fc_size hpb
      have hpar := fun w => sc_parse S w (by omega)
      rw [show fpB S = true by rw [← hS]; exact pr_put hpb] at hpar
      simp only [← hS, fpV_put hpb, List.getD_cons_zero, List.getD_cons_succ] at hpar
      rw [hS] at hpar
      have HG1 := Lib.hid hpar
      obtain ⟨k, hk⟩ : ∃ k : Nat, x.toNat % 17 = k := ⟨_, rfl⟩
      have hk1 : (x.toNat : Int) % 17 = (k : Int) := by omega
      have hk3 : k < 17 := by omega
      obtain ⟨bad, hbad⟩ : ∃ bad : Bool, decide (y.toNat = 0) = bad := ⟨_, rfl⟩
      have fy : ((y.toNat : Int) == 0) = bad := by
        rw [← hbad, Bool.eq_iff_iff, beq_iff_eq, decide_eq_true_eq]; omega
      have HG2 : ∃ (z0 z1 z2 z3 z4 z5 z6 z7 : Int), Hid (∀ w, Calls Tryd.prog 7 #[.string (turnB S k y)] w fun e w' => e = .returned (.tuple #[.agg #[.int .i64 z0, .int .i64 z1, .int .i64 z2, .int .i64 z3, .int .i64 z4, .int .i64 z5, .int .i64 z6, .int .i64 z7], .bool bad]) ∧ Below w.heap.size w w') := by
        have hz : (turnB S k y).size ≤ 1000000 := by rw [turn_size]; omega
        have h := fun w => sc_parse (turnB S k y) w hz
        have hB : fpB (turnB S k y) = bad := by
          by_cases h0 : y.toNat = 0
          · rw [turn_none S k y h0, ← hS, pr_put hpb, ← hbad, decide_eq_true h0]
          · have hone := crcFinds.one_shut (hdS ++ pkS [f0, f1, f2, f3, f4, f5, f6, f7] wsS) k y (by rw [← fc_is hpb, hS]; omega) h0
            rw [← fc_is hpb, hS] at hone
            rw [← hbad, decide_eq_false h0]
            unfold fpB
            rw [hone]
            rfl
        rw [hB] at h
        exact ⟨_, _, _, _, _, _, _, _, Lib.hid h⟩
      obtain ⟨z0, z1, z2, z3, z4, z5, z6, z7, HG2⟩ := HG2
      have hTs := turn_size S k y
      clear hS hpb hpar hbad hk HP
      go_wp2_with (fail)
      refine (HG1.out _).mono ?_
      rintro e w3 ⟨rfl, hb⟩
      have A3 := below_call A2 hb
      have P3 := P2.below hb
      have X3 := X2.below hb
      clear hb A2 P2 X2 HG1
      go_upto_region 6 with (fail)
      refine at_world (fun w => Below W.heap.size W w ∧ Box w p #[.int .i64 f0, .int .i64 f1, .int .i64 f2, .int .i64 f3, .int .i64 f4, .int .i64 f5, .int .i64 f6, .int .i64 f7] ∧ Box w q #[.int .u8 x.toNat, .int .u8 y.toNat] ∧ Box w w3.heap.size #[.int .i64 f0, .int .i64 f1, .int .i64 f2, .int .i64 f3, .int .i64 f4, .int .i64 f5, .int .i64 f6, .int .i64 f7]) ⟨by (repeat (first | (with_reducible exact Below.refl _ _) | (with_reducible assumption) | (with_reducible refine Near.up _ ?_) | (with_reducible refine Below.drew ?_) | (with_reducible refine below_alloc_on ?_ _) | (with_reducible refine below_set_on ?_ (by first | (simp; done) | (simp; omega) | omega) _))), by (repeat (first | (with_reducible assumption) | (with_reducible exact box_new _ _ _) | ((with_reducible apply box_at); (first | (with_reducible rfl) | (simp <;> omega))) | (with_reducible apply Box.drew) | (with_reducible apply Box.drewN) | (with_reducible apply Box.near) | (with_reducible apply Box.alloc) | ((with_reducible apply box_far); (first | assumption | omega | (simp <;> omega))) | ((with_reducible apply Box.one_set); (with_reducible assumption)) | ((with_reducible apply Box.two_set); (with_reducible assumption)) | ((with_reducible apply Box.three_set); (with_reducible assumption)) | (with_reducible apply Box.set) | (simp only [List.size_toArray, List.length_cons, List.length_nil, Array.size_setIfInBounds] <;> omega))), by (repeat (first | (with_reducible assumption) | (with_reducible exact box_new _ _ _) | ((with_reducible apply box_at); (first | (with_reducible rfl) | (simp <;> omega))) | (with_reducible apply Box.drew) | (with_reducible apply Box.drewN) | (with_reducible apply Box.near) | (with_reducible apply Box.alloc) | ((with_reducible apply box_far); (first | assumption | omega | (simp <;> omega))) | ((with_reducible apply Box.one_set); (with_reducible assumption)) | ((with_reducible apply Box.two_set); (with_reducible assumption)) | ((with_reducible apply Box.three_set); (with_reducible assumption)) | (with_reducible apply Box.set) | (simp only [List.size_toArray, List.length_cons, List.length_nil, Array.size_setIfInBounds] <;> omega))), box_cast (by (repeat (first | (with_reducible assumption) | (with_reducible exact box_new _ _ _) | ((with_reducible apply box_at); (first | (with_reducible rfl) | (simp <;> omega))) | (with_reducible apply Box.drew) | (with_reducible apply Box.drewN) | (with_reducible apply Box.near) | (with_reducible apply Box.alloc) | ((with_reducible apply box_far); (first | assumption | omega | (simp <;> omega))) | ((with_reducible apply Box.one_set); (with_reducible assumption)) | ((with_reducible apply Box.two_set); (with_reducible assumption)) | ((with_reducible apply Box.three_set); (with_reducible assumption)) | (with_reducible apply Box.set) | (simp only [List.size_toArray, List.length_cons, List.length_nil, Array.size_setIfInBounds] <;> omega)))) (by first | rfl | simp)⟩ ?_
      clear A3 P3 X3
      rintro w4 ⟨A4, P4, X4, N4⟩
      obtain ⟨n9, hn9⟩ : ∃ n9, w3.heap.size = n9 := ⟨_, rfl⟩
      rw [hn9] at N4
      simp only [hn9]
      clear hn9
      have hcv := run_bytes_of_string (P := Tryd.prog) w4 9 30 5 S Tryd.underlying9 Tryd.underlying30 Tryd.underlying5
      obtain ⟨C, hC⟩ : ∃ C, grownCap w4 S.size 0 5 = C := ⟨_, rfl⟩
      rw [hC] at hcv
      obtain ⟨w5, hw5⟩ : ∃ w5, w4.drew.alloc (.cells (bytesRow S C) 5 ((bytesRow S C).size, (bytesRow S C).size + 1)) = w5 := ⟨_, rfl⟩
      rw [hw5] at hcv
      have hb5 : Below w4.heap.size w4 w5 := hw5 ▸ (Below.refl _ _).drew.alloc (Nat.le_refl _) _
      have hds : S.data.size = S.size := rfl
      have hcell : ∀ j (hj : j < S.size), w5.cell? ⟨w4.heap.size, j, none⟩ = some (.int .u8 (S[j].toNat : Int)) := by
        intro j hj
        rw [← hw5]
        exact (World.cell?_alloc_mark w4.drew (bytesRow S C) 5 _ j).trans (bytesRow_at S C j hj)
      have hrow : S.size ≤ (bytesRow S C).size := by unfold bytesRow; simp [hds]
      have hfr : w5.frozen? ⟨w4.heap.size, k, none⟩ = false := by
        rw [← hw5]
        refine (World.frozen?_alloc_mark w4.drew (bytesRow S C) 5 _ _ k).trans ?_
        simp; omega
      have lg5 : w4.heap.size < w5.heap.size := by rw [← hw5]; simp
      have hks : k < S.size := by omega
      have hck := hcell k hks
      have hx : bits .xor .u8 (S[k].toNat : Int) (y.toNat : Int) = ((S[k] ^^^ y).toNat : Int) := by
        rw [u8_xor_nat _ _ (UInt8.toNat_lt _) (UInt8.toNat_lt _), UInt8.toNat_xor]
      have A5 := below_call A4 hb5
      have P5 := P4.below hb5
      have X5 := X4.below hb5
      have N5 := N4.below hb5
      have HCL := Lib.hid hcell
      clear hcell hrow hw5 hC hds hb5
      obtain ⟨lX5, cX5, fX5⟩ := id X5
      obtain ⟨yk, hyk⟩ : ∃ yk, ((S[k] ^^^ y).toNat : Int) = yk := ⟨_, rfl⟩
      rw [hyk] at hx
      rw [hS17] at hcv
      generalize hsk : (S[k].toNat : Int) = sk at *
      have HYK := Lib.hid hyk
      clear hyk
      go_upto_region 7 with (fail)
      refine wp_region_calm_tail 13 (by kernel_rfl) (by kernel_rfl) ?_
      simp only [List.take_succ_cons, List.take_zero, List.drop_succ_cons, List.drop_zero]
      repeat (go_big_quiet_step ((fail)))
      refine wpQuiet_nil ?_
      intro _ hw'
      obtain ⟨u, rfl⟩ := hw'
      have hck1 : u.at_.cell? ⟨w4.heap.size, k, none⟩ = some (.int .u8 sk) := (u.cell (p := ⟨w4.heap.size, k, none⟩) lg5).trans hck
      have A6 := u.up A5
      have P6 := P5.near u
      have X6 := X5.near u
      have N6 := N5.near u
      have HC6 := Lib.hid (show ∀ j (hj : j < S.size), u.at_.cell? ⟨w4.heap.size, j, none⟩ = some (.int .u8 (S[j].toNat : Int)) from fun j hj => (u.cell (p := ⟨w4.heap.size, j, none⟩) lg5).trans (HCL.out j hj))
      have lg6 : w4.heap.size < u.at_.heap.size := Nat.lt_of_lt_of_le lg5 u.size
      have lP := P4.1
      have lX := X4.1
      have lN := N4.1
      have lW := A4.size
      go_upto_region 8 with (fail)
      refine at_world (fun w => Below W.heap.size W w ∧ Box w p #[.int .i64 f0, .int .i64 f1, .int .i64 f2, .int .i64 f3, .int .i64 f4, .int .i64 f5, .int .i64 f6, .int .i64 f7] ∧ Box w q #[.int .u8 x.toNat, .int .u8 y.toNat] ∧ Box w n9 #[.int .i64 f0, .int .i64 f1, .int .i64 f2, .int .i64 f3, .int .i64 f4, .int .i64 f5, .int .i64 f6, .int .i64 f7] ∧ ∀ j (hj : j < 17), w.cell? ⟨w4.heap.size, j, none⟩ = some (.int .u8 ((turnB S k y).data.toList.getD j 0).toNat)) ⟨below_set_on A6 (by show W.heap.size ≤ w4.heap.size; omega) _, P6.far (by show w4.heap.size ≠ p; omega) _, X6.far (by show w4.heap.size ≠ q; omega) _, N6.far (by show w4.heap.size ≠ n9; omega) _, ?_⟩ ?_
      · intro j hj
        rw [turn_at S k y j (by omega)]
        by_cases hjk : k = j
        · subst hjk
          rw [World.cell?_setCell_same _ _ _ hck1, ← HYK.out, if_pos rfl]
        · rw [World.cell?_setCell_other _ _ _ _ (show (⟨w4.heap.size, k, none⟩ : Addr) ≠ ⟨w4.heap.size, j, none⟩ by intro h; injection h with _ h _; exact hjk h), HC6.out j (by omega), if_neg hjk]
      rintro w7 ⟨A7, P7, X7, N7, HB7⟩
      clear A6 P6 X6 N6 A5 P5 X5 N5 A4 P4 X4 N4 cX5 fX5 hck hck1 hcv hfr HCL HC6 hx HYK lg5 lg6 lP lX lN lW lX5 hsk
      generalize w4.heap.size = g at *
      have hlen : (turnB S k y).data.toList.length = 17 := by rw [Array.length_toList]; show (turnB S k y).size = 17; omega
      have hback := run_convert_bytes_back (P := Tryd.prog) w7 30 9 5 ⟨g, 0, none⟩ C (turnB S k y).data.toList
        Tryd.underlying30 Tryd.underlying5 Tryd.underlying9 (fun j hj => by
          rw [add_at, HB7 j (by omega)]
          simp [List.getD, List.getElem?_eq_getElem hj])
      rw [hlen] at hback
      have hback2 : (convert 30 9 (.slice (some ⟨g, 0, none⟩) 17 C)).run Tryd.prog w7 = .ok (.string (turnB S k y)) w7 := hback
      clear hback HB7
      generalize turnB S k y = tt at *
      go_wp2_with (fail)
      refine (HG2.out _).mono ?_
      rintro e w8 ⟨rfl, hb⟩
      have A8 := below_call A7 hb
      have P8 := P7.below hb
      have X8 := X7.below hb
      have N8 := N7.below hb
      clear hb A7 P7 X7 N7 hback2 HG2
      go_upto_region 9 with (fail)
      refine at_world (fun w => Below W.heap.size W w ∧ Box w p #[.int .i64 f0, .int .i64 f1, .int .i64 f2, .int .i64 f3, .int .i64 f4, .int .i64 f5, .int .i64 f6, .int .i64 f7] ∧ Box w q #[.int .u8 x.toNat, .int .u8 y.toNat] ∧ Box w n9 #[.int .i64 f0, .int .i64 f1, .int .i64 f2, .int .i64 f3, .int .i64 f4, .int .i64 f5, .int .i64 f6, .int .i64 f7]) ⟨by (repeat (first | (with_reducible exact Below.refl _ _) | (with_reducible assumption) | (with_reducible refine Near.up _ ?_) | (with_reducible refine Below.drew ?_) | (with_reducible refine below_alloc_on ?_ _) | (with_reducible refine below_set_on ?_ (by first | (simp; done) | (simp; omega) | omega) _))), by (repeat (first | (with_reducible assumption) | (with_reducible exact box_new _ _ _) | ((with_reducible apply box_at); (first | (with_reducible rfl) | (simp <;> omega))) | (with_reducible apply Box.drew) | (with_reducible apply Box.drewN) | (with_reducible apply Box.near) | (with_reducible apply Box.alloc) | ((with_reducible apply box_far); (first | assumption | omega | (simp <;> omega))) | ((with_reducible apply Box.one_set); (with_reducible assumption)) | ((with_reducible apply Box.two_set); (with_reducible assumption)) | ((with_reducible apply Box.three_set); (with_reducible assumption)) | (with_reducible apply Box.set) | (simp only [List.size_toArray, List.length_cons, List.length_nil, Array.size_setIfInBounds] <;> omega))), by (repeat (first | (with_reducible assumption) | (with_reducible exact box_new _ _ _) | ((with_reducible apply box_at); (first | (with_reducible rfl) | (simp <;> omega))) | (with_reducible apply Box.drew) | (with_reducible apply Box.drewN) | (with_reducible apply Box.near) | (with_reducible apply Box.alloc) | ((with_reducible apply box_far); (first | assumption | omega | (simp <;> omega))) | ((with_reducible apply Box.one_set); (with_reducible assumption)) | ((with_reducible apply Box.two_set); (with_reducible assumption)) | ((with_reducible apply Box.three_set); (with_reducible assumption)) | (with_reducible apply Box.set) | (simp only [List.size_toArray, List.length_cons, List.length_nil, Array.size_setIfInBounds] <;> omega))), by (repeat (first | (with_reducible assumption) | (with_reducible exact box_new _ _ _) | ((with_reducible apply box_at); (first | (with_reducible rfl) | (simp <;> omega))) | (with_reducible apply Box.drew) | (with_reducible apply Box.drewN) | (with_reducible apply Box.near) | (with_reducible apply Box.alloc) | ((with_reducible apply box_far); (first | assumption | omega | (simp <;> omega))) | ((with_reducible apply Box.one_set); (with_reducible assumption)) | ((with_reducible apply Box.two_set); (with_reducible assumption)) | ((with_reducible apply Box.three_set); (with_reducible assumption)) | (with_reducible apply Box.set) | (simp only [List.size_toArray, List.length_cons, List.length_nil, Array.size_setIfInBounds] <;> omega)))⟩ ?_
      clear A8 P8 X8 N8
      rintro w9 ⟨A9, P9, X9, N9⟩
      have cp := P9.2.1
      have lp := P9.1
      have cx := X9.2.1
      have lx := X9.1
      have cn := N9.2.1
      have ln := N9.1
      have HA9 := Lib.hid A9
      clear A9 P9 X9 N9 hTs hk1 hk3 hS17
      cases bad
      · go_wp2
        go_meet
        exact HA9.out
      · go_wp2
        go_meet
        exact HA9.out
  case rest =>
    have HA2 := Lib.hid hcut
    have HT2 := Lib.hid (HT.out.stays hcut)
    have HT0 := HT
    clear hcut A2 P2 X2 HP HT
    have hs1 : s.size ≤ 1000000 := by omega
    have hpar := fun w => sc_parse s w hs1
    have hok : pb = false → S = ⟨#[]⟩ := fun h => by rw [← hS]; exact fc_none (hpb.trans h)
    clear hS hpb
    cases his : fpB s
    · rw [his] at hpar
      simp only [pr_none his] at hpar
      have HQ := Lib.hid hpar
      have hz : ∀ z ∈ [(0 : Int), 0, 0, 0, 0, 0, 0, 0], -9223372036854775808 ≤ z ∧ z ≤ 9223372036854775807 := by
        intro z hz
        have : z = 0 := by simpa using hz
        omega
      have HR := Lib.hid (fun w => sc_frame 0 0 0 0 0 0 0 0 hz w)
      generalize fcS [0, 0, 0, 0, 0, 0, 0, 0] = uu at *
      generalize pkB [0, 0, 0, 0, 0, 0, 0, 0] wsS = can at *
      clear hpar hz his
      go_wp2_with (fail)
      refine (HQ.out _).mono ?_
      rintro e w3 ⟨rfl, hb⟩
      have A3 := below_call HA2.out hb
      have T3 := Lib.hid (HT2.out.stays hb)
      clear hb HA2 HT2
      go_upto_region 12 with (fail)
      refine at_world (fun w => Below W.heap.size W w ∧ Box w w3.heap.size #[.int .i64 0, .int .i64 0, .int .i64 0, .int .i64 0, .int .i64 0, .int .i64 0, .int .i64 0, .int .i64 0]) ⟨by (repeat (first | (with_reducible exact Below.refl _ _) | (with_reducible assumption) | (with_reducible refine Near.up _ ?_) | (with_reducible refine Below.drew ?_) | (with_reducible refine below_alloc_on ?_ _) | (with_reducible refine below_set_on ?_ (by first | (simp; done) | (simp; omega) | omega) _))), box_cast (by (repeat (first | (with_reducible assumption) | (with_reducible exact box_new _ _ _) | ((with_reducible apply box_at); (first | (with_reducible rfl) | (simp <;> omega))) | (with_reducible apply Box.drew) | (with_reducible apply Box.drewN) | (with_reducible apply Box.near) | (with_reducible apply Box.alloc) | ((with_reducible apply box_far); (first | assumption | omega | (simp <;> omega))) | ((with_reducible apply Box.one_set); (with_reducible assumption)) | ((with_reducible apply Box.two_set); (with_reducible assumption)) | ((with_reducible apply Box.three_set); (with_reducible assumption)) | (with_reducible apply Box.set) | (simp only [List.size_toArray, List.length_cons, List.length_nil, Array.size_setIfInBounds] <;> omega)))) (by first | rfl | simp)⟩ ?_
      have l3 := A3.size
      clear A3 T3
      rintro w4 ⟨A4, G4⟩
      obtain ⟨g, hg⟩ : ∃ g, w3.heap.size = g := ⟨_, rfl⟩
      rw [hg] at G4
      simp only [hg]
      clear hg
      have cg := G4.2.1
      have lg := G4.1
      go_wp2_with (fail)
      refine (HR.out _).mono ?_
      rintro e w5 ⟨rfl, hb⟩
      have A5 := below_call A4 hb
      have G5 := G4.below hb
      have T5 := Lib.hid (HT0.out.stays A5)
      clear hb A4 G4 cg lg
      have cg := G5.2.1
      have lg := G5.1
      cases pb
      · obtain rfl := hok rfl
        clear hok
        go_wp2_with (fail)
        refine (HA.out _ T5.out).mono ?_
        rintro e w6 ⟨rfl, hb⟩
        have A6 := below_call A5 hb
        clear hb
        go_wp2
        go_ret
        exact ⟨rfl, A6⟩
      · clear hok
        go_wp2_with (fail)
        refine (HA.out _ T5.out).mono ?_
        rintro e w6 ⟨rfl, hb⟩
        have A6 := below_call A5 hb
        clear hb
        go_wp2
        go_ret
        exact ⟨rfl, A6⟩
    · have hl := pr_list his
      have hk := pr_pk his
      have hbk := pr_back his
      rw [← hl] at hk hbk
      have hbd := pk_bd hk
      rw [his] at hpar
      have hfr := fun w => sc_frame (fpV s 0) (fpV s 1) (fpV s 2) (fpV s 3) (fpV s 4) (fpV s 5) (fpV s 6) (fpV s 7) hbd w
      rw [hk, hbk] at hfr
      generalize fpV s 0 = y0 at *
      generalize fpV s 1 = y1 at *
      generalize fpV s 2 = y2 at *
      generalize fpV s 3 = y3 at *
      generalize fpV s 4 = y4 at *
      generalize fpV s 5 = y5 at *
      generalize fpV s 6 = y6 at *
      generalize fpV s 7 = y7 at *
      have HQ := Lib.hid hpar
      have HR := Lib.hid hfr
      clear hpar hfr hbd hk hbk hl his
      go_wp2_with (fail)
      refine (HQ.out _).mono ?_
      rintro e w3 ⟨rfl, hb⟩
      have A3 := below_call HA2.out hb
      have T3 := Lib.hid (HT2.out.stays hb)
      clear hb HA2 HT2
      go_upto_region 12 with (fail)
      refine at_world (fun w => Below W.heap.size W w ∧ Box w w3.heap.size #[.int .i64 y0, .int .i64 y1, .int .i64 y2, .int .i64 y3, .int .i64 y4, .int .i64 y5, .int .i64 y6, .int .i64 y7]) ⟨by (repeat (first | (with_reducible exact Below.refl _ _) | (with_reducible assumption) | (with_reducible refine Near.up _ ?_) | (with_reducible refine Below.drew ?_) | (with_reducible refine below_alloc_on ?_ _) | (with_reducible refine below_set_on ?_ (by first | (simp; done) | (simp; omega) | omega) _))), box_cast (by (repeat (first | (with_reducible assumption) | (with_reducible exact box_new _ _ _) | ((with_reducible apply box_at); (first | (with_reducible rfl) | (simp <;> omega))) | (with_reducible apply Box.drew) | (with_reducible apply Box.drewN) | (with_reducible apply Box.near) | (with_reducible apply Box.alloc) | ((with_reducible apply box_far); (first | assumption | omega | (simp <;> omega))) | ((with_reducible apply Box.one_set); (with_reducible assumption)) | ((with_reducible apply Box.two_set); (with_reducible assumption)) | ((with_reducible apply Box.three_set); (with_reducible assumption)) | (with_reducible apply Box.set) | (simp only [List.size_toArray, List.length_cons, List.length_nil, Array.size_setIfInBounds] <;> omega)))) (by first | rfl | simp)⟩ ?_
      have l3 := A3.size
      clear A3 T3
      rintro w4 ⟨A4, G4⟩
      obtain ⟨g, hg⟩ : ∃ g, w3.heap.size = g := ⟨_, rfl⟩
      rw [hg] at G4
      simp only [hg]
      clear hg
      have cg := G4.2.1
      have lg := G4.1
      go_wp2_with (fail)
      refine (HR.out _).mono ?_
      rintro e w5 ⟨rfl, hb⟩
      have A5 := below_call A4 hb
      have G5 := G4.below hb
      have T5 := Lib.hid (HT0.out.stays A5)
      clear hb A4 G4 cg lg
      have cg := G5.2.1
      have lg := G5.1
      cases pb
      · obtain rfl := hok rfl
        clear hok
        go_wp2_with (fail)
        refine (HA.out _ T5.out).mono ?_
        rintro e w6 ⟨rfl, hb⟩
        have A6 := below_call A5 hb
        clear hb
        go_wp2
        go_ret
        exact ⟨rfl, A6⟩
      · clear hok
        go_wp2_with (fail)
        refine (HA.out _ T5.out).mono ?_
        rintro e w6 ⟨rfl, hb⟩
        have A6 := below_call A5 hb
        clear hb
        go_wp2
        go_ret
        exact ⟨rfl, A6⟩

theorem door_met (os : Os) (args : Array Value) : laidMetH Tryd.prog Rows.screenBackRow.laid ((World.doorLaid Tryd.prog 34 os).forCall (fun _ _ => 0) ⟨#[], args, []⟩).memory :=
  laidMetH_of_parts3 (fuel := 8) (laidMet_of_run' 8 (by kernel_rfl) (by kernel_rfl)) (by kernel_rfl) (by kernel_rfl)
set_option maxRecDepth 100000 in
theorem lifted (os : Os) (started : os.Started) (H : Type) (enc : TypeId × Value → H) :
    ReturnsInHanded {} Tryd.checked os 3 .any (fun w args => (Rows.screenBackSpec.pre enc Tryd.prog Tryd.f3 [] false w args ∧ laidMetH Tryd.prog Rows.screenBackRow.laid w) ∧ sizedMet enc Tryd.prog Tryd.f3 (OpenSpec.ofChange Rows.screenBackSpec) false w args) (Rows.screenBackSpec.post enc Tryd.prog Tryd.f3 false true false false) := by
  refine law_lift_laid (laid := Rows.screenBackRow.laid) started (by kernel_rfl) Tryd.func3 rfl rfl ?_ (by kernel_rfl)
    (ChangeSpec.witness_shaped (enc := enc) (C := Tryd.checked) (os := os) (X := fun w _ => laidMetH Tryd.prog Rows.screenBackRow.laid w) false (World.doorLaid Tryd.prog 34 os) #[.agg #[.int .i64 0, .int .i64 0, .int .i64 0, .int .i64 0, .int .i64 0, .int .i64 0, .int .i64 0, .int .i64 0], .string ⟨#[]⟩, .agg #[.int .u8 0, .int .u8 0]] 8 rfl (World.shaped_of_RefB (by kernel_rfl) (by kernel_rfl)) (by kernel_rfl) (by kernel_rfl) (by kernel_rfl) (door_met os _)) ?_
  · intro ds hl
    match ds, hl with
    | [_, _, _], _ => exact ⟨rfl, rfl, rfl⟩
  · intro W base args ds p hval hA hlt hwt hL
    rw [Tryd.params3] at hA hval hwt
    obtain ⟨v0, vs0, d0, ds0, p0, q0, hargs, rfl, rfl, h0, r0⟩ := trodAll_cons hA
    obtain ⟨v1, vs1, d1, ds1, p1, q1, rfl, rfl, rfl, h1, r1⟩ := trodAll_cons r0
    obtain ⟨v2, vs2, d2, ds2, p2, q2, rfl, rfl, rfl, h2, r2⟩ := trodAll_cons r1
    obtain ⟨rfl, rfl, rfl⟩ := trodAll_nil r2
    obtain rfl : args = #[v0, v1, v2] := by cases args; simp_all
    obtain ⟨cs0, rfl, l0, k0⟩ := open_leaves 5 [.int .i64, .int .i64, .int .i64, .int .i64, .int .i64, .int .i64, .int .i64, .int .i64] (by kernel_rfl) (by kernel_rfl) (hval 0 23 v0 rfl rfl) h0
    match cs0, l0, k0 with
    | [y0_0, y0_1, y0_2, y0_3, y0_4, y0_5, y0_6, y0_7], _, k0 =>
    obtain ⟨x0_0, e0_0, w0_0⟩ : leafIs (.int .i64) y0_0 := k0 0 _ rfl
    subst e0_0
    obtain ⟨x0_1, e0_1, w0_1⟩ : leafIs (.int .i64) y0_1 := k0 1 _ rfl
    subst e0_1
    obtain ⟨x0_2, e0_2, w0_2⟩ : leafIs (.int .i64) y0_2 := k0 2 _ rfl
    subst e0_2
    obtain ⟨x0_3, e0_3, w0_3⟩ : leafIs (.int .i64) y0_3 := k0 3 _ rfl
    subst e0_3
    obtain ⟨x0_4, e0_4, w0_4⟩ : leafIs (.int .i64) y0_4 := k0 4 _ rfl
    subst e0_4
    obtain ⟨x0_5, e0_5, w0_5⟩ : leafIs (.int .i64) y0_5 := k0 5 _ rfl
    subst e0_5
    obtain ⟨x0_6, e0_6, w0_6⟩ : leafIs (.int .i64) y0_6 := k0 6 _ rfl
    subst e0_6
    obtain ⟨x0_7, e0_7, w0_7⟩ : leafIs (.int .i64) y0_7 := k0 7 _ rfl
    subst e0_7
    obtain ⟨a1, rfl, rfl, rfl, w1⟩ := Go.ChangeMaps.open_string Tryd.underlying9 (hval 1 9 v1 rfl rfl) h1
    obtain ⟨xs2, rfl, l2, w2⟩ := open_int_cells Tryd.underlying24 Tryd.underlying5 (by kernel_rfl) (by kernel_rfl) (hval 2 24 v2 rfl rfl) h2
    match xs2, l2, w2 with
    | [x2_0, x2_1], _, w2 =>
    exact walk W x0_0 w0_0 x0_1 w0_1 x0_2 w0_2 x0_3 w0_3 x0_4 w0_4 x0_5 w0_5 x0_6 w0_6 x0_7 w0_7 a1 w1 x2_0 (w2 _ (by simp)) x2_1 (w2 _ (by simp)) hL

theorem over : Rows.screenBackRow.holds Tryd.pinned (OpenSpec.ofChange Rows.screenBackSpec) :=
  OpenClaim.holds_of_wide 3 Tryd.f3 rfl rfl rfl rfl rfl rfl rfl ⟨rfl, rfl, rfl, rfl, rfl⟩ rfl rfl rfl rfl rfl (by kernel_rfl) Tryd.func3 (by kernel_rfl)
    (of_decide_eq_true (by kernel_rfl)) (by unfold Func.isWrapper; first | (rw [if_pos (by decide +kernel)]; kernel_rfl) | (rw [if_neg (by decide +kernel)]; exact ⟨rfl, rfl⟩))
    (fun os started H enc _ => lifted os started H enc)

theorem plain (f : FuncId) (fn : Func) (hf : Tryd.pinned.checked.prog.funcNamed "pinchcock/pinchcocklaw43.ScreenBack" = some f) (hfn : Tryd.pinned.checked.prog.funcs[f]? = some fn) :
    false = Tryd.pinned.checked.prog.looks [] ∧ ∀ (j : Nat) t, fn.params[j]? = some t → Tryd.pinned.checked.prog.wantsStandIn t = false := by
  obtain rfl : f = 3 := Option.some.inj ((show Tryd.prog.funcNamed "pinchcock/pinchcocklaw43.ScreenBack" = some 3 by kernel_rfl).symm.trans hf) |>.symm
  obtain rfl : fn = Tryd.f3 := (Option.some.inj (Tryd.func3.symm.trans hfn)).symm
  refine ⟨by kernel_rfl, fun j t ht => ?_⟩
  rw [Tryd.params3] at ht
  have hm : t ∈ [23, 9, 24] := by simpa using Array.mem_of_getElem? ht
  have hall : ([23, 9, 24].all fun u => !Tryd.prog.wantsStandIn u) = true := by kernel_rfl
  exact (show Tryd.prog.wantsStandIn t = false by simpa using List.all_eq_true.1 hall t hm)
theorem proved : Rows.ScreenBackCardSaid :=
  Claim7.holds_tied_plain_at .later [] _ _ _ _ over (fun _ h => by cases h) (by kernel_rfl) (fun _ h => by cases h) screenBack_row_tie rfl ⟨rfl, rfl⟩ (by kernel_rfl) rfl plain (by kernel_rfl)
#print axioms proved
end Go.Proofs.YtjdahghnfgblgaaDoor.screenBack
