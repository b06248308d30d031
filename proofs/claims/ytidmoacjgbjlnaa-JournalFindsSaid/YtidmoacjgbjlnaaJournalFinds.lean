/- JournalFinds holds of every entry, every place and every byte: an entry of which a byte is another one is none, nor is one that is cut, or goes on. No condition. -/
import Derived.Test.YtidmoacjgbjlnaaJour3
import Derived.Test.YtidmoacjgbjlnaaCrcFinds
import Derived.Test.YtidmoacjgbjlnaaLeaf
import Derived.Test.YtidmoacjgbjlnaaArr
import Derived.Deep.LoopGhost
namespace Go.Proofs.Ytidmoacjgbjlnaa.journalFinds
open Go.ChangeShapes Go.WideShapes Go.ChangeAt Go.RowKit
set_option linter.unusedVariables false
set_option linter.unusedSimpArgs false
set_option maxRecDepth 100000
attribute [local go_sem] cell_set_ite Near.cell Near.frozen

theorem turn_at (S : ByteArray) (k : Nat) (x : UInt8) (j : Nat) (hj : j < S.size) : (turnB S k x).data.toList.getD j 0 = if k = j then S[j] ^^^ x else S[j] := by
  have hl : j < S.data.toList.length := by rw [Array.length_toList]; exact hj
  have he : S.data.toList[j] = S[j] := by rw [Array.getElem_toList]; rfl
  rw [turn_list, List.getD_eq_getElem?_getD, List.getElem?_modify, List.getElem?_eq_getElem hl, he]
  by_cases h : k = j
  · simp [h]
  · simp [h]
theorem none_size {t : ByteArray} (h : t.size ≠ 21) : gtB t = false := by
  cases hg : gtB t
  · rfl
  · exact absurd (gt_size hg) h
theorem three (w : World) (x y z : ByteArray) (P : ByteArray → Prop) (hx : P x) (hy : P y) (hz : P z) :
    ∀ j : Nat, j < 3 → ∃ v, (w.alloc (.cells #[.string x, .string y, .string z] 9)).cell? ⟨w.heap.size, j, none⟩ = some (.string v) ∧ P v := by
  intro j hj
  match j, hj with
  | 0, _ => exact ⟨x, by rw [World.cell?_alloc_at _ _ _ _ rfl]; rfl, hx⟩
  | 1, _ => exact ⟨y, by rw [World.cell?_alloc_at _ _ _ _ rfl]; rfl, hy⟩
  | 2, _ => exact ⟨z, by rw [World.cell?_alloc_at _ _ _ _ rfl]; rfl, hz⟩
theorem one_byte (w : World) (c : UInt8) : (convert 30 9 (.slice (some ⟨w.heap.size, 0, none⟩) 1 1)).run Try.prog (w.alloc (.cells #[.int .u8 (c.toNat : Int)] 5)) = .ok (.string ⟨#[c]⟩) (w.alloc (.cells #[.int .u8 (c.toNat : Int)] 5)) := by
  have h := run_convert_bytes_back (P := Try.prog) (w.alloc (.cells #[.int .u8 (c.toNat : Int)] 5)) 30 9 5 ⟨w.heap.size, 0, none⟩ 1 [c]
    Try.underlying30 Try.underlying5 Try.underlying9 (fun j hj => by
      have e : ((⟨w.heap.size, 0, none⟩ : Addr).add j) = ⟨w.heap.size, j, none⟩ := by unfold Addr.add; split <;> simp_all
      rw [e]
      match j, hj with
      | 0, _ => rw [World.cell?_alloc_at _ _ _ _ rfl]; rfl)
  exact h

set_option maxHeartbeats 16000000 in
theorem walk (q0 : Int) (wq0 : (Lit.int .i64 q0).wf = true) (q1 : Int) (wq1 : (Lit.int .i64 q1).wf = true) (q2 : Int) (wq2 : (Lit.int .i64 q2).wf = true) (q3 : Int) (wq3 : (Lit.int .i64 q3).wf = true) (q4 : Int) (wq4 : (Lit.int .i64 q4).wf = true) (q5 : Int) (wq5 : (Lit.int .i64 q5).wf = true) (q6 : Int) (wq6 : (Lit.int .i64 q6).wf = true) (q7 : Int) (wq7 : (Lit.int .i64 q7).wf = true) (a : Int) (wa : (Lit.int .u8 a).wf = true) (x0 : Int) (wx0 : (Lit.int .u8 x0).wf = true) (x1 : Int) (wx1 : (Lit.int .u8 x1).wf = true) (W : World) :
    Calls Try.prog 10 #[.agg #[.int .i64 q0, .int .i64 q1, .int .i64 q2, .int .i64 q3, .int .i64 q4, .int .i64 q5, .int .i64 q6, .int .i64 q7], .int .u8 a, .agg #[.int .u8 x0, .int .u8 x1]] W fun e W' => e = .returned (.bool true) ∧ Below W.heap.size W W' := by
  have A : Below W.heap.size W W := Below.refl _ _
  obtain ⟨x, rfl⟩ := crcFinds.byte_of x0 wx0
  obtain ⟨y, rfl⟩ := crcFinds.byte_of x1 wx1
  have a0 : 0 ≤ a ∧ a ≤ 255 := by simp only [Lit.wf, IntKind.min, IntKind.max, IntKind.signed, IntKind.bits, Bool.and_eq_true] at wa; simpa using wa
  have hy256 : y.toNat < 256 := UInt8.toNat_lt y
  have HP := fun w => j_put q0 q1 q2 q3 q4 q5 q6 q7 w
  clear wq0 wq1 wq2 wq3 wq4 wq5 wq6 wq7 wa wx0 wx1
  cases he : enB q0 q1 q2 q3 q4 q5 q6 q7
  · rw [he] at HP
    have HP := Lib.hid HP
    clear he
    go_enter Try.func10, Try.ntmps10
    go_wp2_with (fail)
    refine (HP.out _).mono ?_
    rintro e w1 ⟨rfl, hb⟩
    replace A : Below W.heap.size W w1 := by (refine below_call ?_ hb; (repeat (first | (with_reducible exact Below.refl _ _) | (with_reducible assumption) | (with_reducible refine Near.up _ ?_) | (with_reducible refine Below.drew ?_) | (with_reducible refine below_alloc_on ?_ _) | (with_reducible refine below_set_on ?_ (by first | (simp; done) | (simp; omega) | omega) _))))
    replace P := Box.below (g := W.heap.size) (by (repeat (first | (with_reducible assumption) | (with_reducible exact box_new _ _ _) | ((with_reducible apply box_at); (first | (with_reducible rfl) | (simp <;> omega))) | (with_reducible apply Box.drew) | (with_reducible apply Box.drewN) | (with_reducible apply Box.near) | (with_reducible apply Box.alloc) | ((with_reducible apply box_far); (first | assumption | omega | (simp <;> omega))) | ((with_reducible apply Box.one_set); (with_reducible assumption)) | ((with_reducible apply Box.two_set); (with_reducible assumption)) | ((with_reducible apply Box.three_set); (with_reducible assumption)) | (with_reducible apply Box.set) | (simp only [List.size_toArray, List.length_cons, List.length_nil, Array.size_setIfInBounds] <;> omega)))) hb
    (try simp only [List.setIfInBounds_toArray, List.set_cons_zero, List.set_cons_succ] at P)
    (try clear cP fP)
    replace X := Box.below (g := W.heap.size + 1) (by (repeat (first | (with_reducible assumption) | (with_reducible exact box_new _ _ _) | ((with_reducible apply box_at); (first | (with_reducible rfl) | (simp <;> omega))) | (with_reducible apply Box.drew) | (with_reducible apply Box.drewN) | (with_reducible apply Box.near) | (with_reducible apply Box.alloc) | ((with_reducible apply box_far); (first | assumption | omega | (simp <;> omega))) | ((with_reducible apply Box.one_set); (with_reducible assumption)) | ((with_reducible apply Box.two_set); (with_reducible assumption)) | ((with_reducible apply Box.three_set); (with_reducible assumption)) | (with_reducible apply Box.set) | (simp only [List.size_toArray, List.length_cons, List.length_nil, Array.size_setIfInBounds] <;> omega)))) hb
    (try simp only [List.setIfInBounds_toArray, List.set_cons_zero, List.set_cons_succ] at X)
    (try clear cX fX)
    clear hb
    have z_w1 : W.heap.size ≤ w1.heap.size := A.size
    obtain ⟨lP_w1, cP, fP⟩ := id P
    obtain ⟨lX_w1, cX, fX⟩ := id X
    go_wp2_with (fail)
    refine (law39_awake _).mono ?_
    rintro e w2 ⟨rfl, hb⟩
    replace A : Below W.heap.size W w2 := by (refine below_call ?_ hb; (repeat (first | (with_reducible exact Below.refl _ _) | (with_reducible assumption) | (with_reducible refine Near.up _ ?_) | (with_reducible refine Below.drew ?_) | (with_reducible refine below_alloc_on ?_ _) | (with_reducible refine below_set_on ?_ (by first | (simp; done) | (simp; omega) | omega) _))))
    clear hb
    have z_w2 : W.heap.size ≤ w2.heap.size := A.size
    go_wp2
    all_goals go_ret
    all_goals exact ⟨rfl, A⟩
  · rw [he] at HP
    by_cases hx0 : x.toNat = 0
    · have f3 : ((x.toNat : Int) == 0) = true := by simp [hx0]
      have HP := Lib.hid HP
      clear he hx0
      go_enter Try.func10, Try.ntmps10
      go_wp2_with (fail)
      refine (HP.out _).mono ?_
      rintro e w1 ⟨rfl, hb⟩
      replace A : Below W.heap.size W w1 := by (refine below_call ?_ hb; (repeat (first | (with_reducible exact Below.refl _ _) | (with_reducible assumption) | (with_reducible refine Near.up _ ?_) | (with_reducible refine Below.drew ?_) | (with_reducible refine below_alloc_on ?_ _) | (with_reducible refine below_set_on ?_ (by first | (simp; done) | (simp; omega) | omega) _))))
      replace P := Box.below (g := W.heap.size) (by (repeat (first | (with_reducible assumption) | (with_reducible exact box_new _ _ _) | ((with_reducible apply box_at); (first | (with_reducible rfl) | (simp <;> omega))) | (with_reducible apply Box.drew) | (with_reducible apply Box.drewN) | (with_reducible apply Box.near) | (with_reducible apply Box.alloc) | ((with_reducible apply box_far); (first | assumption | omega | (simp <;> omega))) | ((with_reducible apply Box.one_set); (with_reducible assumption)) | ((with_reducible apply Box.two_set); (with_reducible assumption)) | ((with_reducible apply Box.three_set); (with_reducible assumption)) | (with_reducible apply Box.set) | (simp only [List.size_toArray, List.length_cons, List.length_nil, Array.size_setIfInBounds] <;> omega)))) hb
      (try simp only [List.setIfInBounds_toArray, List.set_cons_zero, List.set_cons_succ] at P)
      (try clear cP fP)
      replace X := Box.below (g := W.heap.size + 1) (by (repeat (first | (with_reducible assumption) | (with_reducible exact box_new _ _ _) | ((with_reducible apply box_at); (first | (with_reducible rfl) | (simp <;> omega))) | (with_reducible apply Box.drew) | (with_reducible apply Box.drewN) | (with_reducible apply Box.near) | (with_reducible apply Box.alloc) | ((with_reducible apply box_far); (first | assumption | omega | (simp <;> omega))) | ((with_reducible apply Box.one_set); (with_reducible assumption)) | ((with_reducible apply Box.two_set); (with_reducible assumption)) | ((with_reducible apply Box.three_set); (with_reducible assumption)) | (with_reducible apply Box.set) | (simp only [List.size_toArray, List.length_cons, List.length_nil, Array.size_setIfInBounds] <;> omega)))) hb
      (try simp only [List.setIfInBounds_toArray, List.set_cons_zero, List.set_cons_succ] at X)
      (try clear cX fX)
      clear hb
      have z_w1 : W.heap.size ≤ w1.heap.size := A.size
      obtain ⟨lP_w1, cP, fP⟩ := id P
      obtain ⟨lX_w1, cX, fX⟩ := id X
      go_wp2_with (fail)
      refine (law39_awake _).mono ?_
      rintro e w2 ⟨rfl, hb⟩
      replace A : Below W.heap.size W w2 := by (refine below_call ?_ hb; (repeat (first | (with_reducible exact Below.refl _ _) | (with_reducible assumption) | (with_reducible refine Near.up _ ?_) | (with_reducible refine Below.drew ?_) | (with_reducible refine below_alloc_on ?_ _) | (with_reducible refine below_set_on ?_ (by first | (simp; done) | (simp; omega) | omega) _))))
      clear hb
      have z_w2 : W.heap.size ≤ w2.heap.size := A.size
      go_wp2
      all_goals go_ret
      all_goals exact ⟨rfl, A⟩
    · have f3 : ((x.toNat : Int) == 0) = false := by simp; omega
      have hs := pt_size he
      have hg := gt_put he
      have hV := fun i => gtV_put he i
      have hS : ptS q0 q1 q2 q3 q4 q5 q6 q7 = sealB (pkS [q0, q1, q2, q3, q4, q5, q6, q7] wsL) := by unfold ptS; rw [if_pos he]
      obtain ⟨k, hk⟩ : ∃ k : Nat, (a % 21).toNat = k := ⟨_, rfl⟩
      have hk1 : a % 21 = (k : Int) := by omega
      have hk3 : k < 21 := by omega
      obtain ⟨m, hm⟩ : ∃ m : Nat, y.toNat % 21 = m := ⟨_, rfl⟩
      have hm1 : (y.toNat : Int) % 21 = (m : Int) := by omega
      have hm3 : m < 21 := by omega
      have hone := crcFinds.one_shut (pkS [q0, q1, q2, q3, q4, q5, q6, q7] wsL) k x (by rw [← hS, hs]; exact hk3) hx0
      rw [← hS] at hone
      have hT := turn_size (ptS q0 q1 q2 q3 q4 q5 q6 q7) k x
      generalize ptS q0 q1 q2 q3 q4 q5 q6 q7 = S at *
      have hG1 : gtB (turnB S k x) = false := by unfold gtB; rw [hone]; rfl
      have hG2 : gtB (S.extract 0 m) = false := none_size (by rw [ByteArray.size_extract]; omega)
      have hG3 : gtB (S ++ ⟨#[y]⟩) = false := none_size (by rw [ByteArray.size_append, hs]; show 21 + 1 ≠ 21; omega)
      have hz1 : (turnB S k x).size ≤ 1000 := by omega
      have hz2 : (S.extract 0 m).size ≤ 1000 := by rw [ByteArray.size_extract]; omega
      have hz3 : (S ++ ⟨#[y]⟩).size ≤ 1000 := by rw [ByteArray.size_append, hs]; show 21 + 1 ≤ 1000; omega
      have HG := Lib.hid (show ∀ t : ByteArray, gtB t = false → t.size ≤ 1000 → ∀ w, Calls Try.prog 31 #[.string t] w fun e w' => e = .returned (.tuple #[.agg #[.int .i64 0, .int .i64 0, .int .i64 0, .int .i64 0, .int .i64 0, .int .i64 0, .int .i64 0, .int .i64 0], .bool false]) ∧ Below w.heap.size w w' from fun t h1 h2 w => by
        have h := j_get t w (by omega)
        simp only [h1, gt_none h1] at h
        exact h)
      have HN := Lib.hid (show ∀ t : ByteArray, gtB t = false → t.size ≤ 1000 → ∀ w, Calls Try.prog 33 #[.agg #[.string t, .string S]] w fun e w' => e = .returned (.tuple #[.agg #[.int .i64 q0, .int .i64 q1, .int .i64 q2, .int .i64 q3, .int .i64 q4, .int .i64 q5, .int .i64 q6, .int .i64 q7], .int .i64 1, .bool true]) ∧ Below w.heap.size w w' from fun t h1 h2 w => by
        have h := j_newest t S w (by omega) (by omega)
        have e1 : nwT t S = S := by unfold nwT nwF; rw [h1]; rfl
        have e2 : nwS t S = 1 := by unfold nwS nwF; rw [h1, hg]; rfl
        rw [e1, e2, hg] at h
        simp only [hV, List.getD_cons_zero, List.getD_cons_succ] at h
        exact h)
      have HM := Lib.hid (show ∀ t : ByteArray, gtB t = false → t.size ≤ 1000 → ∀ w, Calls Try.prog 33 #[.agg #[.string S, .string t]] w fun e w' => e = .returned (.tuple #[.agg #[.int .i64 q0, .int .i64 q1, .int .i64 q2, .int .i64 q3, .int .i64 q4, .int .i64 q5, .int .i64 q6, .int .i64 q7], .int .i64 0, .bool true]) ∧ Below w.heap.size w w' from fun t h1 h2 w => by
        have h := j_newest S t w (by omega) (by omega)
        have e1 : nwT S t = S := by unfold nwT nwF; rw [h1, hg]; rfl
        have e2 : nwS S t = 0 := by unfold nwS nwF; rw [h1, hg]; rfl
        rw [e1, e2, hg] at h
        simp only [hV, List.getD_cons_zero, List.getD_cons_succ] at h
        exact h)
      have HP := Lib.hid HP
      have HG1 := Lib.hid (And.intro hG1 hz1)
      have HG2 := Lib.hid (And.intro hG2 hz2)
      have HG3 := Lib.hid (And.intro hG3 hz3)
      clear he hx0 hg hV hS hk hm hone hG1 hG2 hG3 hz1 hz2 hz3
      go_enter Try.func10, Try.ntmps10
      go_wp2_with (fail)
      refine (HP.out _).mono ?_
      rintro e w1 ⟨rfl, hb⟩
      replace A : Below W.heap.size W w1 := by (refine below_call ?_ hb; (repeat (first | (with_reducible exact Below.refl _ _) | (with_reducible assumption) | (with_reducible refine Near.up _ ?_) | (with_reducible refine Below.drew ?_) | (with_reducible refine below_alloc_on ?_ _) | (with_reducible refine below_set_on ?_ (by first | (simp; done) | (simp; omega) | omega) _))))
      replace P := Box.below (g := W.heap.size) (by (repeat (first | (with_reducible assumption) | (with_reducible exact box_new _ _ _) | ((with_reducible apply box_at); (first | (with_reducible rfl) | (simp <;> omega))) | (with_reducible apply Box.drew) | (with_reducible apply Box.drewN) | (with_reducible apply Box.near) | (with_reducible apply Box.alloc) | ((with_reducible apply box_far); (first | assumption | omega | (simp <;> omega))) | ((with_reducible apply Box.one_set); (with_reducible assumption)) | ((with_reducible apply Box.two_set); (with_reducible assumption)) | ((with_reducible apply Box.three_set); (with_reducible assumption)) | (with_reducible apply Box.set) | (simp only [List.size_toArray, List.length_cons, List.length_nil, Array.size_setIfInBounds] <;> omega)))) hb
      (try simp only [List.setIfInBounds_toArray, List.set_cons_zero, List.set_cons_succ] at P)
      (try clear cP fP)
      replace X := Box.below (g := W.heap.size + 1) (by (repeat (first | (with_reducible assumption) | (with_reducible exact box_new _ _ _) | ((with_reducible apply box_at); (first | (with_reducible rfl) | (simp <;> omega))) | (with_reducible apply Box.drew) | (with_reducible apply Box.drewN) | (with_reducible apply Box.near) | (with_reducible apply Box.alloc) | ((with_reducible apply box_far); (first | assumption | omega | (simp <;> omega))) | ((with_reducible apply Box.one_set); (with_reducible assumption)) | ((with_reducible apply Box.two_set); (with_reducible assumption)) | ((with_reducible apply Box.three_set); (with_reducible assumption)) | (with_reducible apply Box.set) | (simp only [List.size_toArray, List.length_cons, List.length_nil, Array.size_setIfInBounds] <;> omega)))) hb
      (try simp only [List.setIfInBounds_toArray, List.set_cons_zero, List.set_cons_succ] at X)
      (try clear cX fX)
      clear hb
      have z_w1 : W.heap.size ≤ w1.heap.size := A.size
      obtain ⟨lP_w1, cP, fP⟩ := id P
      obtain ⟨lX_w1, cX, fX⟩ := id X
      have hcv := run_bytes_of_string (P := Try.prog) w1 9 30 5 S Try.underlying9 Try.underlying30 Try.underlying5
      obtain ⟨C, hC⟩ : ∃ C, grownCap w1 S.size 0 5 = C := ⟨_, rfl⟩
      rw [hC] at hcv
      obtain ⟨w2, hw2⟩ : ∃ w2, w1.drew.alloc (.cells (bytesRow S C) 5 ((bytesRow S C).size, (bytesRow S C).size + 1)) = w2 := ⟨_, rfl⟩
      rw [hw2] at hcv
      have hb2 : Below w1.heap.size w1 w2 := hw2 ▸ (Below.refl _ _).drew.alloc (Nat.le_refl _) _
      have hds : S.data.size = S.size := rfl
      have hcell : ∀ j (hj : j < S.size), w2.cell? ⟨w1.heap.size, j, none⟩ = some (.int .u8 (S[j].toNat : Int)) := by
        intro j hj
        rw [← hw2]
        exact (World.cell?_alloc_mark w1.drew (bytesRow S C) 5 _ j).trans (bytesRow_at S C j hj)
      have hrow : S.size ≤ (bytesRow S C).size := by unfold bytesRow; simp [hds]
      have hfr : w2.frozen? ⟨w1.heap.size, k, none⟩ = false := by
        rw [← hw2]
        refine (World.frozen?_alloc_mark w1.drew (bytesRow S C) 5 _ _ k).trans ?_
        simp; omega
      have lg2 : w1.heap.size < w2.heap.size := by rw [← hw2]; simp
      have hks : k < S.size := by omega
      have hck := hcell k hks
      have hx : bits .xor .u8 (S[k].toNat : Int) (x.toNat : Int) = ((S[k] ^^^ x).toNat : Int) := by
        rw [u8_xor_nat _ _ (UInt8.toNat_lt _) (UInt8.toNat_lt _), UInt8.toNat_xor]
      have A2 := below_call A hb2
      have P2 := P.below hb2
      have X2 := X.below hb2
      have HCL := Lib.hid hcell
      clear hcell hrow hw2 hC hds hb2
      obtain ⟨lP2, cP2, fP2⟩ := id P2
      obtain ⟨lX2, cX2, fX2⟩ := id X2
      obtain ⟨yk, hyk⟩ : ∃ yk, ((S[k] ^^^ x).toNat : Int) = yk := ⟨_, rfl⟩
      rw [hyk] at hx
      rw [hs] at hcv
      generalize hsk : (S[k].toNat : Int) = sk at *
      have HYK := Lib.hid hyk
      clear hyk
      go_upto_region 5 with (fail)
      refine wp_region_calm_tail 12 (by kernel_rfl) (by kernel_rfl) ?_
      simp only [List.take_succ_cons, List.take_zero, List.drop_succ_cons, List.drop_zero]
      repeat (go_big_quiet_step ((fail)))
      refine wpQuiet_nil ?_
      intro _ hw'
      obtain ⟨u, rfl⟩ := hw'
      have hck1 : u.at_.cell? ⟨w1.heap.size, k, none⟩ = some (.int .u8 sk) := (u.cell (p := ⟨w1.heap.size, k, none⟩) lg2).trans hck
      have A3 := u.up A2
      have P3 := P2.near u
      have X3 := X2.near u
      have HC3 := Lib.hid (show ∀ j (hj : j < S.size), u.at_.cell? ⟨w1.heap.size, j, none⟩ = some (.int .u8 (S[j].toNat : Int)) from fun j hj => (u.cell (p := ⟨w1.heap.size, j, none⟩) lg2).trans (HCL.out j hj))
      have lg3 : w1.heap.size < u.at_.heap.size := Nat.lt_of_lt_of_le lg2 u.size
      have lX : W.heap.size + 1 < w1.heap.size := by omega
      go_upto_region 6 with (fail)
      refine at_world (fun w => Below W.heap.size W w ∧ Box w W.heap.size #[.int .i64 q0, .int .i64 q1, .int .i64 q2, .int .i64 q3, .int .i64 q4, .int .i64 q5, .int .i64 q6, .int .i64 q7] ∧ Box w (W.heap.size + 1) #[.int .u8 x.toNat, .int .u8 y.toNat] ∧ ∀ j (hj : j < 21), w.cell? ⟨w1.heap.size, j, none⟩ = some (.int .u8 ((turnB S k x).data.toList.getD j 0).toNat)) ⟨below_set_on A3 (by simp; omega) _, P3.far (by simp; omega) _, X3.far (by simp; omega) _, ?_⟩ ?_
      · intro j hj
        rw [turn_at S k x j (by omega)]
        by_cases hjk : k = j
        · subst hjk
          rw [World.cell?_setCell_same _ _ _ hck1, ← HYK.out, if_pos rfl]
        · rw [World.cell?_setCell_other _ _ _ _ (show (⟨w1.heap.size, k, none⟩ : Addr) ≠ ⟨w1.heap.size, j, none⟩ by intro h; injection h with _ h _; exact hjk h), HC3.out j (by omega), if_neg hjk]
      rintro w4 ⟨A4, P4, X4, HB4⟩
      clear A3 P3 X3 A2 P2 X2 cP fP cX fX cP2 fP2 cX2 fX2 hck hck1 hcv hfr HCL HC3 hx HYK lg2 lg3 A P X lX2 lP2 lP_w1 lX_w1 z_w1
      generalize w1.heap.size = g at *
      have hlen : (turnB S k x).data.toList.length = 21 := by rw [Array.length_toList]; show (turnB S k x).size = 21; omega
      have hback := run_convert_bytes_back (P := Try.prog) w4 30 9 5 ⟨g, 0, none⟩ C (turnB S k x).data.toList
        Try.underlying30 Try.underlying5 Try.underlying9 (fun j hj => by
          have e : ((⟨g, 0, none⟩ : Addr).add j) = ⟨g, j, none⟩ := by unfold Addr.add; split <;> simp_all
          rw [e, HB4 j (by omega)]
          simp [List.getD, List.getElem?_eq_getElem hj])
      rw [hlen] at hback
      have hback2 : (convert 30 9 (.slice (some ⟨g, 0, none⟩) 21 C)).run Try.prog w4 = .ok (.string (turnB S k x)) w4 := hback
      have hone := fun w => one_byte w y
      clear hback HB4
      obtain ⟨lP4, cP, fP⟩ := id P4
      obtain ⟨lX4, cX, fX⟩ := id X4
      obtain ⟨t1, ht1⟩ : ∃ t, turnB S k x = t := ⟨_, rfl⟩
      rw [ht1] at HG1 hback2
      obtain ⟨t2, ht2⟩ : ∃ t, S.extract 0 m = t := ⟨_, rfl⟩
      rw [ht2] at HG2
      obtain ⟨t3, ht3⟩ : ∃ t, S ++ ⟨#[y]⟩ = t := ⟨_, rfl⟩
      rw [ht3] at HG3
      clear ht1
      go_upto_region 8 with (fail)
      have V3 := three (w4.alloc (.cells #[.int .u8 (y.toNat : Int)] 5)) t1 t2 t3 (fun t => gtB t = false ∧ t.size ≤ 1000) HG1.out HG2.out HG3.out
      rw [show (w4.alloc (.cells #[.int .u8 (y.toNat : Int)] 5)).heap.size = w4.heap.size + 1 from by simp] at V3
      have A5 : Below W.heap.size W ((w4.alloc (.cells #[.int .u8 (y.toNat : Int)] 5)).alloc (.cells #[.string t1, .string t2, .string t3] 9)) := below_alloc_on (below_alloc_on A4 _) _
      have P5 : Box ((w4.alloc (.cells #[.int .u8 (y.toNat : Int)] 5)).alloc (.cells #[.string t1, .string t2, .string t3] 9)) W.heap.size #[.int .i64 q0, .int .i64 q1, .int .i64 q2, .int .i64 q3, .int .i64 q4, .int .i64 q5, .int .i64 q6, .int .i64 q7] := (P4.alloc _).alloc _
      have l5 : w4.heap.size + 1 < ((w4.alloc (.cells #[.int .u8 (y.toNat : Int)] 5)).alloc (.cells #[.string t1, .string t2, .string t3] 9)).heap.size := by simp
      have lP5 := P5.1
      clear cP fP lP4 cX fX lX4 A4 P4 X4 hback2 hone HG1 HG2 HG3
      generalize (w4.alloc (.cells #[.int .u8 (y.toNat : Int)] 5)).alloc (.cells #[.string t1, .string t2, .string t3] 9) = w5 at *
      generalize w4.heap.size + 1 = lb at *
      have VV := Lib.hid V3
      have PP := Lib.hid P5
      clear V3 P5 hk1 hm1 ht2 ht3
      go_loopg [67] 3 (fun gk i wr => ∃ j : Nat, j ≤ 3 ∧ gk = 3 - j ∧ i = .int .i64 j ∧ Below w5.heap.size w5 wr)
      case atStart => exact ⟨0, by omega, rfl, rfl, Below.refl _ _⟩
      case round =>
        obtain ⟨j, hj, rfl, rfl, A⟩ := hrel
        by_cases hj3 : j < 3
        · obtain ⟨tx, hct, hg, hz⟩ := VV.out j hj3
          have hcj := (A.cell (p := ⟨lb, j, none⟩) l5).trans hct
          clear hct
          have P := PP.out.below A
          obtain ⟨lP, cP, fP⟩ := id P
          have zr := A.size
          have H1 := Lib.hid (HG.out tx hg hz)
          have H2 := Lib.hid (HN.out tx hg hz)
          have H3 := Lib.hid (HM.out tx hg hz)
          clear hg hz
          go_wp2_with (fail)
          refine (H1.out _).mono ?_
          rintro e w6 ⟨rfl, hb⟩
          replace A : Below w5.heap.size w5 w6 := by (refine below_call ?_ hb; (repeat (first | (with_reducible exact Below.refl _ _) | (with_reducible assumption) | (with_reducible refine Near.up _ ?_) | (with_reducible refine Below.drew ?_) | (with_reducible refine below_alloc_on ?_ _) | (with_reducible refine below_set_on ?_ (by first | (simp; done) | (simp; omega) | omega) _))))
          replace P := Box.below (g := W.heap.size) (by (repeat (first | (with_reducible assumption) | (with_reducible exact box_new _ _ _) | ((with_reducible apply box_at); (first | (with_reducible rfl) | (simp <;> omega))) | (with_reducible apply Box.drew) | (with_reducible apply Box.drewN) | (with_reducible apply Box.near) | (with_reducible apply Box.alloc) | ((with_reducible apply box_far); (first | assumption | omega | (simp <;> omega))) | ((with_reducible apply Box.one_set); (with_reducible assumption)) | ((with_reducible apply Box.two_set); (with_reducible assumption)) | ((with_reducible apply Box.three_set); (with_reducible assumption)) | (with_reducible apply Box.set) | (simp only [List.size_toArray, List.length_cons, List.length_nil, Array.size_setIfInBounds] <;> omega)))) hb
          (try simp only [List.setIfInBounds_toArray, List.set_cons_zero, List.set_cons_succ] at P)
          (try clear cP fP)
          clear hb
          have z_w6 : w5.heap.size ≤ w6.heap.size := A.size
          obtain ⟨lP_w6, cP, fP⟩ := id P
          go_wp2_with (fail)
          refine (H2.out _).mono ?_
          rintro e w7 ⟨rfl, hb⟩
          replace A : Below w5.heap.size w5 w7 := by (refine below_call ?_ hb; (repeat (first | (with_reducible exact Below.refl _ _) | (with_reducible assumption) | (with_reducible refine Near.up _ ?_) | (with_reducible refine Below.drew ?_) | (with_reducible refine below_alloc_on ?_ _) | (with_reducible refine below_set_on ?_ (by first | (simp; done) | (simp; omega) | omega) _))))
          replace P := Box.below (g := W.heap.size) (by (repeat (first | (with_reducible assumption) | (with_reducible exact box_new _ _ _) | ((with_reducible apply box_at); (first | (with_reducible rfl) | (simp <;> omega))) | (with_reducible apply Box.drew) | (with_reducible apply Box.drewN) | (with_reducible apply Box.near) | (with_reducible apply Box.alloc) | ((with_reducible apply box_far); (first | assumption | omega | (simp <;> omega))) | ((with_reducible apply Box.one_set); (with_reducible assumption)) | ((with_reducible apply Box.two_set); (with_reducible assumption)) | ((with_reducible apply Box.three_set); (with_reducible assumption)) | (with_reducible apply Box.set) | (simp only [List.size_toArray, List.length_cons, List.length_nil, Array.size_setIfInBounds] <;> omega)))) hb
          (try simp only [List.setIfInBounds_toArray, List.set_cons_zero, List.set_cons_succ] at P)
          (try clear cP fP)
          clear hb
          have z_w7 : w5.heap.size ≤ w7.heap.size := A.size
          obtain ⟨lP_w7, cP, fP⟩ := id P
          have n1 : ¬ W.heap.size = w7.heap.size := by omega
          go_wp2_with (fail)
          refine (H3.out _).mono ?_
          rintro e w8 ⟨rfl, hb⟩
          replace A : Below w5.heap.size w5 w8 := by (refine below_call ?_ hb; (repeat (first | (with_reducible exact Below.refl _ _) | (with_reducible assumption) | (with_reducible refine Near.up _ ?_) | (with_reducible refine Below.drew ?_) | (with_reducible refine below_alloc_on ?_ _) | (with_reducible refine below_set_on ?_ (by first | (simp; done) | (simp; omega) | omega) _))))
          replace P := Box.below (g := W.heap.size) (by (repeat (first | (with_reducible assumption) | (with_reducible exact box_new _ _ _) | ((with_reducible apply box_at); (first | (with_reducible rfl) | (simp <;> omega))) | (with_reducible apply Box.drew) | (with_reducible apply Box.drewN) | (with_reducible apply Box.near) | (with_reducible apply Box.alloc) | ((with_reducible apply box_far); (first | assumption | omega | (simp <;> omega))) | ((with_reducible apply Box.one_set); (with_reducible assumption)) | ((with_reducible apply Box.two_set); (with_reducible assumption)) | ((with_reducible apply Box.three_set); (with_reducible assumption)) | (with_reducible apply Box.set) | (simp only [List.size_toArray, List.length_cons, List.length_nil, Array.size_setIfInBounds] <;> omega)))) hb
          (try simp only [List.setIfInBounds_toArray, List.set_cons_zero, List.set_cons_succ] at P)
          (try clear cP fP)
          replace E := Box.below (g := w7.heap.size) (by (repeat (first | (with_reducible assumption) | (with_reducible exact box_new _ _ _) | ((with_reducible apply box_at); (first | (with_reducible rfl) | (simp <;> omega))) | (with_reducible apply Box.drew) | (with_reducible apply Box.drewN) | (with_reducible apply Box.near) | (with_reducible apply Box.alloc) | ((with_reducible apply box_far); (first | assumption | omega | (simp <;> omega))) | ((with_reducible apply Box.one_set); (with_reducible assumption)) | ((with_reducible apply Box.two_set); (with_reducible assumption)) | ((with_reducible apply Box.three_set); (with_reducible assumption)) | (with_reducible apply Box.set) | (simp only [List.size_toArray, List.length_cons, List.length_nil, Array.size_setIfInBounds] <;> omega)))) hb
          (try simp only [List.setIfInBounds_toArray, List.set_cons_zero, List.set_cons_succ] at E)
          (try clear cE fE)
          clear hb
          have z_w8 : w5.heap.size ≤ w8.heap.size := A.size
          obtain ⟨lP_w8, cP, fP⟩ := id P
          obtain ⟨lE_w8, cE, fE⟩ := id E
          have n2 : ¬ W.heap.size = w8.heap.size := by omega
          have n3 : ¬ w7.heap.size = w8.heap.size := by omega
          go_wp2
          go_roundg (3 - (j + 1))
          case measure => omega
          case rel => exact ⟨j + 1, by omega, by omega, by go_num, by (repeat (first | (with_reducible exact Below.refl _ _) | (with_reducible assumption) | (with_reducible refine Near.up _ ?_) | (with_reducible refine Below.drew ?_) | (with_reducible refine below_alloc_on ?_ _) | (with_reducible refine below_set_on ?_ (by first | (simp; done) | (simp; omega) | omega) _)))⟩
        · obtain rfl : j = 3 := by omega
          go_wp2_with (fail)
          refine (law39_awake _).mono ?_
          rintro e w6 ⟨rfl, hb⟩
          replace A : Below w5.heap.size w5 w6 := by (refine below_call ?_ hb; (repeat (first | (with_reducible exact Below.refl _ _) | (with_reducible assumption) | (with_reducible refine Near.up _ ?_) | (with_reducible refine Below.drew ?_) | (with_reducible refine below_alloc_on ?_ _) | (with_reducible refine below_set_on ?_ (by first | (simp; done) | (simp; omega) | omega) _))))
          clear hb
          have z_w6 : w5.heap.size ≤ w6.heap.size := A.size
          go_wp2
          go_ret
          exact ⟨rfl, Below.trans A5 (A.mono A5.size)⟩

set_option maxRecDepth 100000 in
theorem lifted (os : Os) (started : os.Started) (H : Type) (enc : TypeId × Value → H) :
    ReturnsInHanded {} Try.checked os 10 .any (Rows.journalFindsSpec.pre6 enc Try.prog Try.f10 Rows.journalFindsRow.domain false) (Rows.journalFindsSpec.post enc Try.prog Try.f10 false true false false) := by
  refine law_lift started (by kernel_rfl) Try.func10 rfl rfl ?_ (by kernel_rfl)
    (ChangeSpec.witness6 (enc := enc) (C := Try.checked) false ⟨#[], #[.agg #[.int .i64 0, .int .i64 0, .int .i64 0, .int .i64 0, .int .i64 0, .int .i64 0, .int .i64 0, .int .i64 0], .int .u8 0, .agg #[.int .u8 0, .int .u8 0]], []⟩ 8 (by kernel_rfl) (by kernel_rfl) (by kernel_rfl) (by kernel_rfl)) ?_
  · intro ds hl
    match ds, hl with
    | [_, _, _], _ => exact ⟨rfl, rfl, rfl⟩
  · intro W base args ds p hval hA hlt hwt
    rw [Try.params10] at hA hval hwt
    obtain ⟨v0, vs0, d0, ds0, p0, q0, hargs, rfl, rfl, h0, r0⟩ := trodAll_cons hA
    obtain ⟨v1, vs1, d1, ds1, p1, q1, rfl, rfl, rfl, h1, r1⟩ := trodAll_cons r0
    obtain ⟨v2, vs2, d2, ds2, p2, q2, rfl, rfl, rfl, h2, r2⟩ := trodAll_cons r1
    obtain ⟨rfl, rfl, rfl⟩ := trodAll_nil r2
    obtain rfl : args = #[v0, v1, v2] := by cases args; simp_all
    obtain ⟨cs0, rfl, l0, k0⟩ := open_leaves 5 [.int .i64, .int .i64, .int .i64, .int .i64, .int .i64, .int .i64, .int .i64, .int .i64] (by kernel_rfl) (by kernel_rfl) (hval 0 50 v0 rfl rfl) h0
    match cs0, l0, k0 with
    | [y0_0, y0_1, y0_2, y0_3, y0_4, y0_5, y0_6, y0_7], _, k0 =>
    obtain ⟨x0_0, e0_0, w0_0⟩ : leafIs (.int .i64) y0_0 := k0 0 _ rfl
    subst e0_0
    obtain ⟨x0_1, e0_1, w0_1⟩ : leafIs (.int .i64) y0_1 := k0 1 _ rfl
    subst e0_1
    obtain ⟨x0_2, e0_2, w0_2⟩ : leafIs (.int .i64) y0_2 := k0 2 _ rfl
    subst e0_2
    obtain ⟨x0_3, e0_3, w0_3⟩ : leafIs (.int .i64) y0_3 := k0 3 _ rfl
    subst e0_3
    obtain ⟨x0_4, e0_4, w0_4⟩ : leafIs (.int .i64) y0_4 := k0 4 _ rfl
    subst e0_4
    obtain ⟨x0_5, e0_5, w0_5⟩ : leafIs (.int .i64) y0_5 := k0 5 _ rfl
    subst e0_5
    obtain ⟨x0_6, e0_6, w0_6⟩ : leafIs (.int .i64) y0_6 := k0 6 _ rfl
    subst e0_6
    obtain ⟨x0_7, e0_7, w0_7⟩ : leafIs (.int .i64) y0_7 := k0 7 _ rfl
    subst e0_7
    obtain ⟨a1, rfl, rfl, rfl, w1⟩ := open_int Try.underlying5 (hval 1 5 v1 rfl rfl) h1
    obtain ⟨xs2, rfl, l2, w2⟩ := open_int_cells Try.underlying61 Try.underlying5 (by kernel_rfl) (by kernel_rfl) (hval 2 61 v2 rfl rfl) h2
    match xs2, l2, w2 with
    | [x2_0, x2_1], _, w2 =>
    exact walk x0_0 w0_0 x0_1 w0_1 x0_2 w0_2 x0_3 w0_3 x0_4 w0_4 x0_5 w0_5 x0_6 w0_6 x0_7 w0_7 a1 w1 x2_0 (w2 _ (by simp)) x2_1 (w2 _ (by simp)) W

theorem over : Rows.journalFindsRow.holds Try.pinned (OpenSpec.ofChange Rows.journalFindsSpec) :=
  OpenClaim.holds_of_wide 10 Try.f10 rfl rfl rfl rfl rfl rfl rfl ⟨rfl, rfl, rfl, rfl, rfl⟩ rfl rfl rfl rfl rfl (by kernel_rfl) Try.func10 (by kernel_rfl)
    (of_decide_eq_true (by kernel_rfl)) (by unfold Func.isWrapper; first | (rw [if_pos (by decide +kernel)]; kernel_rfl) | (rw [if_neg (by decide +kernel)]; exact ⟨rfl, rfl⟩))
    (fun os started H enc _ => lifted os started H enc)

theorem proved : Rows.JournalFindsSaid := over
#print axioms proved
end Go.Proofs.Ytidmoacjgbjlnaa.journalFinds
