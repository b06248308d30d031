/- Contracts of the document's spec: bases and shades, levels. -/
import Derived.Test.YtmgbegmhanbcnaaRef23
namespace Go.Proofs.Ytmgbegmhanbcnaa
open Go.RowKit
set_option linter.unusedVariables false
set_option linter.unusedSimpArgs false
set_option maxRecDepth 100000
attribute [local go_sem] cell_set_ite Near.cell Near.frozen

theorem rra23 (b a : Int) (s : Bool) (w : World) : Calls Try.prog 37 #[.int .i64 b, .int .i64 a, .bool s] w fun e w' => e = .returned (.int .i64 (eyN b a s)) ∧ w = w' := by
  cases s
  · exact ra_step_no b a w
  · exact ra_step_sh b a w
/-- The bases behind the first k lights, and which are shaded. -/
def baL (xs : List Int) (k : Nat) : List Int := (List.range k).map (fun t => (gzAt xs (t + 1)).ba)
def shL (xs : List Int) (k : Nat) : List Bool := (List.range k).map (shF xs)
theorem baL_len (xs : List Int) (k : Nat) : (baL xs k).length = k := by simp [baL]
theorem shL_len (xs : List Int) (k : Nat) : (shL xs k).length = k := by simp [shL]
theorem baL_next (xs : List Int) (k : Nat) : baL xs (k + 1) = baL xs k ++ [(gzAt xs (k + 1)).ba] := by simp [baL, List.range_succ]
theorem shL_next (xs : List Int) (k : Nat) : shL xs (k + 1) = shL xs k ++ [shF xs k] := by simp [shL, List.range_succ]
theorem baL_at (xs : List Int) {k j : Nat} (h : j < k) : (baL xs k).getD j 0 = (gzAt xs (j + 1)).ba := by simp [baL, List.getD, h]
theorem shL_at (xs : List Int) {k j : Nat} (h : j < k) : (shL xs k).getD j false = shF xs j := by simp [shL, List.getD, h]

/-- Two lists that grow side by side, of numbers and of truths. -/
structure Duo2 (w wr : World) (va vb : Value) (L : List Int) (S : List Bool) : Prop where
  a : wr.ownsRow w.heap.size 3 1 va L.length (L.map (Value.int .i64))
  b : wr.ownsRow w.heap.size 4 1 vb S.length (S.map Value.bool)
  ab : Ap va vb
  bel : Below w.heap.size w wr
namespace Duo2
variable {w wr w1 : World} {va vb : Value} {L : List Int} {S : List Bool}
theorem nil (w : World) : Duo2 w w (.slice none 0 0) (.slice none 0 0) [] [] :=
  ⟨World.ownsRow_nil _ _ _ _, World.ownsRow_nil _ _ _ _, (fun g h => nomatch h), Below.refl _ _⟩
theorem below (h : Duo2 w wr va vb L S) (hb : Below wr.heap.size wr w1) : Duo2 w w1 va vb L S := by
  have hl : ∀ {e sz n v cs}, wr.ownsRow w.heap.size e sz v n cs → w1.ownsRow w.heap.size e sz v n cs := fun {e sz n v cs} h => by
    refine ⟨h.1, ?_⟩
    rcases h.2 with h2 | ⟨g, cap, cur, hv, hg, hh, r⟩
    · exact .inl h2
    · exact .inr ⟨g, cap, cur, hv, hg, by rw [hb.block g (Array.getElem?_eq_some_iff.1 hh).1]; exact hh, r⟩
  exact ⟨hl h.a, hl h.b, h.ab, Below.trans h.bel (hb.mono h.bel.size)⟩
theorem a_next {va' : Value} {x : Int} {o : Obj} (h : Duo2 w wr va vb L S) (ho : w1.ownsRow w.heap.size 3 1 va' (L.length + 1) (L.map (Value.int .i64) ++ [.int .i64 x])) (hg : (wr.alloc o).grownBy w1 va.ownBlock) (ha : va'.ownBlock = va.ownBlock ∨ va'.ownBlock = some (wr.heap.size + 1)) :
    Duo2 w w1 va' vb (L ++ [x]) S :=
  ⟨by simpa using ho, (h.b.alloc o).kept hg h.ab.symm.ne, (h.ab.symm.moved ha (fun g hg => by have := (h.b.lt g hg).2; omega)).symm, Tri.bel_next h.bel h.a hg⟩
theorem b_next {vb' : Value} {x : Bool} {o : Obj} (h : Duo2 w wr va vb L S) (ho : w1.ownsRow w.heap.size 4 1 vb' (S.length + 1) (S.map Value.bool ++ [.bool x])) (hg : (wr.alloc o).grownBy w1 vb.ownBlock) (ha : vb'.ownBlock = vb.ownBlock ∨ vb'.ownBlock = some (wr.heap.size + 1)) :
    Duo2 w w1 va vb' L (S ++ [x]) :=
  ⟨(h.a.alloc o).kept hg h.ab.ne, by simpa using ho, h.ab.moved ha (fun g hg => by have := (h.a.lt g hg).2; omega), Tri.bel_next h.bel h.b hg⟩
end Duo2

set_option maxHeartbeats 4000000 in
theorem rs_both (A : Option Addr) (n c : Nat) (xs : List Int) (w : World) (h : Ints w A n xs) (hn : n ≤ 100000) :
    Calls Try.prog 25 #[.slice A n c] w fun e w' => ∃ B d C f, e = .returned (.tuple #[.slice B n d, .slice C n f]) ∧ n ≤ d ∧ n ≤ f ∧ Ints w' B n (baL xs n) ∧ Truths w' C n (shL xs n) ∧ Below w.heap.size w w' := by
  have HI := Lib.hid h
  clear h
  go_enter Try.func25, Try.ntmps25
  go_wp2
  go_loopg [4, 5, 12] n (fun gk x y i wr => ∃ k : Nat, k ≤ n ∧ gk = n - k ∧ i = .int .i64 k ∧ Duo2 w wr x y (baL xs k) (shL xs k))
  case atStart => exact ⟨0, by omega, rfl, rfl, Duo2.nil w⟩
  case round =>
    obtain ⟨k, hk, rfl, rfl, hd⟩ := hrel
    by_cases hlt : k < n
    · obtain ⟨bb, off, rfl, hbs, hcell⟩ := HI.out.2 (by omega)
      have hck := (hd.bel.cell (p := ⟨bb, off + k, none⟩) hbs).trans (hcell k hlt)
      have hc0 := (hd.bel.cell (p := ⟨bb, off + 0, none⟩) hbs).trans (hcell 0 (by omega))
      rw [Nat.add_zero] at hc0
      clear hcell
      have lb : bb < wr.heap.size := Nat.lt_of_lt_of_le hbs hd.bel.size
      obtain ⟨B0, hB0⟩ : ∃ B0, eyB (gzAt xs k).bg (gzAt xs k).ba (xs.getD k 0) = B0 := ⟨_, rfl⟩
      have H1 := Lib.hid (fun w => ra_level B0 w)
      have H2 := Lib.hid (show ∀ w, Calls Try.prog 36 #[.int .i64 (cbV B0 / 64), .int .i64 (xs.getD k 0), .bool (gzAt xs k).sh] w fun e w' => e = .returned (.bool (shF xs k)) ∧ w = w' from fun w => by rw [sh_form, hB0]; exact rc_shaded _ _ _ w)
      have H3 := Lib.hid (show ∀ w, Calls Try.prog 37 #[.int .i64 B0, .int .i64 (xs.getD k 0), .bool (shF xs k)] w fun e w' => e = .returned (.int .i64 (gzAt xs (k + 1)).ba) ∧ w = w' from fun w => by rw [gz_ba, hB0]; exact rra23 _ _ _ w)
      have H0 := Lib.hid (fun w => ra_start (xs.getD 0 0) w)
      rw [gz_bg] at hB0
      have HL1 := Lib.hid (baL_next xs k)
      have HL2 := Lib.hid (shL_next xs k)
      have hl1 := baL_len xs k
      have hl2 := shL_len xs k
      have hm1 : (baL xs k).length ≤ 17592186044414 := by omega
      have hm2 : (shL xs k).length ≤ 17592186044414 := by omega
      obtain ⟨B1, hB1⟩ : ∃ B1, (gzAt xs (k + 1)).ba = B1 := ⟨_, rfl⟩
      obtain ⟨S, hS⟩ : ∃ S, shF xs k = S := ⟨_, rfl⟩
      rw [hB1] at H3 HL1
      rw [hS] at H2 H3 HL2
      clear hB1 hS
      cases k with
      | zero =>
        have t1 : decide ((0 : Int) < ((0 : Nat) : Int)) = false := decide_eq_false (by omega)
        rw [decide_eq_false (by omega)] at hB0
        rw [show (gzAt xs 0).sh = false from rfl] at H2
        rw [show 64 * lgV (xs.getD 0 0) = B0 from hB0] at H0
        have HD := Lib.hid hd
        clear hB0 hd hl1 hl2
        generalize baL xs 0 = L0 at *
        generalize shL xs 0 = S0 at *
        generalize xs.getD 0 0 = a at *
        rw [show ((0 : Nat) : Int) = 0 from rfl] at *
        go_wp2_with (go_at_call 35; refine (H0.out _).mono ?_; rintro e w' ⟨rfl, rfl⟩)
        refine wp_region_calm (by kernel_rfl) (by kernel_rfl) ?_
        repeat (go_big_quiet_step ((first | (go_at_call 26; exact calm_same _ (H1.out _)) | (go_at_call 36; exact calm_same _ (H2.out _)))))
        refine wpQuiet_nil ?_
        intro _ hw'
        obtain ⟨u, rfl⟩ := hw'
        have HD1 := Lib.hid (HD.out.below u.below)
        have q0 := (u.below.cell (p := ⟨bb, off, none⟩) lb).trans hc0
        have lb1 : bb < u.at_.heap.size := Nat.lt_of_lt_of_le lb u.below.size
        clear hck hc0 HD
        generalize u.at_ = w2 at *
        have hsz := HD1.out.bel.size
        go_wp2_with (first | (go_at_call 37; refine (H3.out _).mono ?_; rintro e w' ⟨rfl, rfl⟩) | (at_builtin; refine app_int_at rfl _ _ rfl _ rfl rfl HD1.out.a hsz hm1 ?_))
        intro x1 w3 h1 h2 h3
        have HD2 := Lib.hid (HD1.out.a_next h1 h2 h3)
        have hsz1 : w.heap.size ≤ w3.heap.size := HD2.out.bel.size
        clear h1 h2 h3 HD1
        go_wp2_with (at_builtin; refine app_truth_at rfl _ _ rfl _ rfl rfl HD2.out.b hsz1 hm2 ?_)
        intro y1 w4 h1 h2 h3
        have HD3 := Lib.hid (HD2.out.b_next h1 h2 h3)
        clear h1 h2 h3 HD2
        go_wp2
        go_roundg (n - (0 + 1))
        case measure => omega
        case rel => exact ⟨0 + 1, by omega, by omega, by go_num, by rw [HL1.out, HL2.out]; exact HD3.out⟩
      | succ j =>
        have t1 : decide ((0 : Int) < (j : Int) + 1) = true := decide_eq_true (by omega)
        rw [decide_eq_true (by omega)] at hB0
        have ha := hd.a
        have hb := hd.b
        rw [hl1] at ha
        rw [hl2] at hb
        obtain ⟨P, d, hP, hle⟩ := own_form ha
        obtain ⟨Q, e, hQ, hle2⟩ := own_formT hb
        subst hP hQ
        obtain ⟨b1, o1, e1, l1, c1⟩ := (Ints.of_own ha hl1).at_ (k := j) (by omega)
        obtain ⟨b2, o2, e2, l2, c2⟩ := (Truths.of_own hb hl2).at_ (i := j) (by omega)
        rw [baL_at xs (Nat.lt_succ_self j)] at c1
        rw [shL_at xs (Nat.lt_succ_self j), ← gz_sh] at c2
        subst e1 e2
        rw [show (gzAt xs (j + 1)).ba = B0 from hB0] at c1
        have HD := Lib.hid hd
        have wj : IntKind.i64.wrap ((j : Int) + 1 - 1) = (j : Int) := by rw [IntKind.wrap_i64]; omega
        clear hB0 hd ha hb hl1 hl2
        generalize baL xs (j + 1) = L0 at *
        generalize shL xs (j + 1) = S0 at *
        generalize xs.getD (j + 1) 0 = a at *
        generalize xs.getD 0 0 = a0 at *
        generalize (gzAt xs (j + 1)).sh = sh at *
        rw [show ((j + 1 : Nat) : Int) = (j : Int) + 1 from rfl] at *
        go_wp2_with (go_at_call 35; refine (H0.out _).mono ?_; rintro e w' ⟨rfl, rfl⟩)
        refine wp_region_calm (by kernel_rfl) (by kernel_rfl) ?_
        repeat (go_big_quiet_step ((fail)))
        refine wpQuiet_nil ?_
        intro _ hw'
        obtain ⟨u, rfl⟩ := hw'
        have HD1 := Lib.hid (HD.out.below u.below)
        have q0 := (u.below.cell (p := ⟨bb, off + (j + 1), none⟩) lb).trans hck
        have lb1 : bb < u.at_.heap.size := Nat.lt_of_lt_of_le lb u.below.size
        clear hck hc0 HD c1 c2 l1 l2 lb
        generalize u.at_ = w1 at *
        go_upto_region 9 with (fail)
        refine wp_region_calm (by kernel_rfl) (by kernel_rfl) ?_
        repeat (go_big_quiet_step ((first | (go_at_call 26; exact calm_same _ (H1.out _)) | (go_at_call 36; exact calm_same _ (H2.out _)))))
        refine wpQuiet_nil ?_
        intro _ hw'
        obtain ⟨u, rfl⟩ := hw'
        have HD2 := Lib.hid (HD1.out.below u.below)
        have q1 := (u.below.cell (p := ⟨bb, off + (j + 1), none⟩) lb1).trans q0
        clear q0 lb1 HD1
        generalize u.at_ = w2 at *
        have hsz := HD2.out.bel.size
        go_wp2_with (first | (go_at_call 37; refine (H3.out _).mono ?_; rintro e w' ⟨rfl, rfl⟩) | (at_builtin; refine app_int_at rfl _ _ rfl _ rfl rfl HD2.out.a hsz hm1 ?_))
        intro x1 w3 h1 h2 h3
        have HD3 := Lib.hid (HD2.out.a_next h1 h2 h3)
        have hsz1 : w.heap.size ≤ w3.heap.size := HD3.out.bel.size
        clear h1 h2 h3 HD2
        go_wp2_with (at_builtin; refine app_truth_at rfl _ _ rfl _ rfl rfl HD3.out.b hsz1 hm2 ?_)
        intro y1 w4 h1 h2 h3
        have HD4 := Lib.hid (HD3.out.b_next h1 h2 h3)
        clear h1 h2 h3 HD3
        go_wp2
        go_roundg (n - (j + 1 + 1))
        case measure => omega
        case rel => exact ⟨j + 1 + 1, by omega, by omega, by go_num, by rw [HL1.out, HL2.out]; exact HD4.out⟩
    · obtain rfl : k = n := by omega
      have ha := hd.a
      have hb := hd.b
      rw [baL_len] at ha
      rw [shL_len] at hb
      obtain ⟨P, d, hP, hle⟩ := own_form ha
      obtain ⟨Q, e, hQ, hle2⟩ := own_formT hb
      subst hP hQ
      have HX := Lib.hid (Ints.of_own ha (baL_len xs k))
      have HY := Lib.hid (Truths.of_own hb (shL_len xs k))
      have A := hd.bel
      clear ha hb hd
      go_wp2
      exact bodyPost_ret (v := .tuple #[.slice P k d, .slice Q k e]) (by simp [results, Try.results25, go_sem]) rfl ⟨P, d, Q, e, rfl, hle, hle2, HX.out, HY.out, A⟩

set_option maxHeartbeats 2000000 in
theorem rs_levels (A : Option Addr) (n c : Nat) (xs : List Int) (w : World) (h : Ints w A n xs) (hn : n ≤ 100000) :
    Calls Try.prog 9 #[.slice A n c] w fun e w' => ∃ B d, e = .returned (.slice B n d) ∧ n ≤ d ∧ Ints w' B n ((List.range n).map (lvF xs)) ∧ Below w.heap.size w w' := by
  have H := Lib.hid (rs_both A n c xs w h hn)
  clear h
  go_enter Try.func9, Try.ntmps9
  go_wp2_with (fail)
  refine H.out.mono ?_
  rintro e w1 ⟨B, d, C, f, rfl, hx1, hx2, C1, C2, A1⟩
  have HC := Lib.hid C1
  clear C1 C2
  go_wp2
  go_loopg [5, 14] n (fun gk x i wr => ∃ k : Nat, k ≤ n ∧ gk = n - k ∧ i = .int .i64 k ∧ Grown w1 ((List.range k).map (lvF xs)) x wr)
  case atStart => exact ⟨0, by omega, rfl, rfl, Grown.nil w1⟩
  case round =>
    obtain ⟨k, hk, rfl, rfl, hd⟩ := hrel
    by_cases hlt : k < n
    · obtain ⟨bb, off, rfl, hbs, hcell⟩ := HC.out.at_ hlt
      have hck := (hd.2.2.cell (p := ⟨bb, off + k, none⟩) hbs).trans hcell
      rw [baL_at xs hlt] at hck
      have H1 := Lib.hid (show ∀ w, Calls Try.prog 26 #[.int .i64 (gzAt xs (k + 1)).ba] w fun e w' => e = .returned (.int .i64 (lvF xs k)) ∧ w = w' from fun w => ra_level _ w)
      have HL := Lib.hid (show (List.range (k + 1)).map (lvF xs) = (List.range k).map (lvF xs) ++ [lvF xs k] from by simp [List.range_succ])
      have hll : ((List.range k).map (lvF xs)).length ≤ 17592186044414 := by simp; omega
      have hsz := hd.2.2.size
      have HD := Lib.hid hd
      have HO := Lib.hid hd.2.1
      clear hd hcell
      generalize (gzAt xs (k + 1)).ba = b at *
      generalize lvF xs k = v at *
      generalize (List.range k).map (lvF xs) = Lk at *
      go_wp2_with (first | (go_at_call 26; refine (H1.out _).mono ?_; rintro e w' ⟨rfl, rfl⟩) | (at_builtin; refine app_int rfl _ _ rfl _ rfl rfl HO.out hsz hll ?_))
      intro v' w4 h1 h2
      have HG := Lib.hid (HD.out.next h1 h2)
      clear h1 h2 HD HO
      go_wp2
      go_roundg (n - (k + 1))
      case measure => omega
      case rel => exact ⟨k + 1, by omega, by omega, by go_num, by rw [HL.out]; exact HG.out⟩
    · obtain rfl : k = n := by omega
      have ha := hd.2.1
      rw [show ((List.range k).map (lvF xs)).length = k by simp] at ha
      obtain ⟨P, d, hP, hle⟩ := own_form ha
      subst hP
      have A2 := below_call A1 hd.2.2
      have HX := Lib.hid (Ints.of_own ha (show ((List.range k).map (lvF xs)).length = k by simp))
      clear ha hd
      go_wp2
      all_goals go_ret
      all_goals exact ⟨P, d, rfl, hle, HX.out, A2⟩
theorem rs_shades (A : Option Addr) (n c : Nat) (xs : List Int) (w : World) (h : Ints w A n xs) (hn : n ≤ 100000) :
    Calls Try.prog 12 #[.slice A n c] w fun e w' => ∃ B d, e = .returned (.slice B n d) ∧ n ≤ d ∧ Truths w' B n (shL xs n) ∧ Below w.heap.size w w' := by
  have H := Lib.hid (rs_both A n c xs w h hn)
  clear h
  go_enter Try.func12, Try.ntmps12
  go_wp2_with (fail)
  refine H.out.mono ?_
  rintro e w1 ⟨B, d, C, f, rfl, hx1, hx2, C1, C2, A1⟩
  have HC := Lib.hid C2
  clear C1 C2
  go_wp2
  all_goals go_ret
  all_goals exact ⟨C, f, rfl, hx2, HC.out, A1⟩
set_option maxHeartbeats 2000000 in
theorem rs_firms (A : Option Addr) (n c : Nat) (ps : List Bool) (w : World) (h : Truths w A n ps) (hn : n ≤ 100000) :
    Calls Try.prog 14 #[.slice A n c] w fun e w' => ∃ B d, e = .returned (.slice B n d) ∧ n ≤ d ∧ Truths w' B n ((List.range n).map (fmB ps)) ∧ Below w.heap.size w w' := by
  have HI := Lib.hid h
  clear h
  go_enter Try.func14, Try.ntmps14
  go_wp2
  go_loopg [3, 7] n (fun gk x i wr => ∃ k : Nat, k ≤ n ∧ gk = n - k ∧ i = .int .i64 k ∧ GrownT w ((List.range k).map (fmB ps)) x wr)
  case atStart => exact ⟨0, by omega, rfl, rfl, GrownT.nil w⟩
  case round =>
    obtain ⟨k, hk, rfl, rfl, hd⟩ := hrel
    by_cases hlt : k < n
    · have H1 := Lib.hid (rs_firm A n c k ps wr (HI.out.below hd.2.2) hn hlt)
      have HL := Lib.hid (show (List.range (k + 1)).map (fmB ps) = (List.range k).map (fmB ps) ++ [fmB ps k] from by simp [List.range_succ])
      have hll : ((List.range k).map (fmB ps)).length ≤ 17592186044414 := by simp; omega
      have HD := Lib.hid hd
      clear hd
      generalize fmB ps k = v at *
      generalize (List.range k).map (fmB ps) = Lk at *
      go_wp2_with (fail)
      refine H1.out.mono ?_
      rintro e w3 ⟨rfl, hb⟩
      have HD2 := Lib.hid (HD.out.below hb)
      have HO := Lib.hid (HD.out.below hb).2.1
      have hsz := (HD.out.below hb).2.2.size
      clear hb HD H1
      go_wp2_with (at_builtin; refine app_truth rfl _ _ rfl _ rfl rfl HO.out hsz hll ?_)
      intro v' w4 h1 h2
      have HG := Lib.hid (HD2.out.next h1 h2)
      clear h1 h2 HD2 HO
      go_wp2
      go_roundg (n - (k + 1))
      case measure => omega
      case rel => exact ⟨k + 1, by omega, by omega, by go_num, by rw [HL.out]; exact HG.out⟩
    · obtain rfl : k = n := by omega
      have ha := hd.2.1
      rw [show ((List.range k).map (fmB ps)).length = k by simp] at ha
      obtain ⟨P, d, hP, hle⟩ := own_formT ha
      subst hP
      have HX := Lib.hid (Truths.of_own ha (show ((List.range k).map (fmB ps)).length = k by simp))
      have A2 := hd.2.2
      clear ha hd
      go_wp2
      all_goals go_ret
      all_goals exact ⟨P, d, rfl, hle, HX.out, A2⟩
end Go.Proofs.Ytmgbegmhanbcnaa
