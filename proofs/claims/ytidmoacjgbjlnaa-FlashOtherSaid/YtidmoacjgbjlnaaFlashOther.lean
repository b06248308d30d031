/- FlashOther holds of every two slots and every list of deeds: the slot that is not written stays as it was. No condition. -/
import Derived.Test.YtidmoacjgbjlnaaFlashN
import Derived.Test.YtidmoacjgbjlnaaWorld
import Derived.ChangeMaps5
import Derived.Deep.CutBlock
import Derived.Deep.DeepCutAuto
import Derived.Deep.LoopGhost
namespace Go.Proofs.Ytidmoacjgbjlnaa.flashOther
open Go.ChangeShapes Go.WideShapes Go.ChangeAt Go.RowKit
set_option linter.unusedVariables false
set_option linter.unusedSimpArgs false
set_option maxRecDepth 100000

theorem eq_slots (w : World) (d : Nat) (x0 x1 y0 y1 : ByteArray) : (Op.equalIn (d + 2) 51 (.agg #[.string x0, .string x1]) (.agg #[.string y0, .string y1])).run Try.prog w = .ok (x0.toList == y0.toList && x1.toList == y1.toList) w := by
  obtain ⟨i, hi⟩ : ∃ i, Try.prog.info? 9 = some i := ⟨_, rfl⟩
  rw [run_equalIn_array (P := Try.prog) w (d + 1) _ _ (n := 2) (e := 9) (by kernel_rfl) hi, show List.range 2 = [0, 1] from rfl, show Try.prog.cellsOf 9 = 1 from by kernel_rfl]
  simp [Op.eqItems, go_sem]
  by_cases h : x0.toList = y0.toList <;> by_cases g : x1.toList = y1.toList <;> simp [h, g]
attribute [local go_sem] cell_set_ite Near.cell Near.frozen eq_slots

set_option maxHeartbeats 40000000 in
theorem some_ (W : World) (u0 u1 : ByteArray) (A0 : Option Addr) (n c : Nat) (R H : Nat → Int) (K : Nat → ByteArray) (hi : FlDeeds W A0 n R H K) (hc : n ≤ c) (hn : n ≤ 60) (s0 : (u0.size : Int) ≤ 64) (s1 : (u1.size : Int) ≤ 64) :
    Calls Try.prog 11 #[.agg #[.string u0, .string u1], .slice A0 n c] W fun e W' => e = .returned (.bool true) ∧ Below W.heap.size W W' := by
  have HI := Lib.hid hi
  have A : Below W.heap.size W W := Below.refl _ _
  have t0 : decide (60 < (n : Int)) = false := decide_eq_false (by omega)
  have t1 : decide (64 < (u0.size : Int)) = false := decide_eq_false (by omega)
  have t2 : decide (64 < (u1.size : Int)) = false := decide_eq_false (by omega)
  clear hi s0 s1
  go_enter Try.func11, Try.ntmps11
  go_wp2
  refine at_world (fun W' => Below W.heap.size W W' ∧ Box W' (W.heap.size + 1) #[.string u0, .string u1, .bool false, .int .i64 0, .string ⟨#[]⟩, .int .i64 0]) ⟨by (repeat (first | (with_reducible exact Below.refl _ _) | (with_reducible assumption) | (with_reducible refine Near.up _ ?_) | (with_reducible refine Below.drew ?_) | (with_reducible refine below_alloc_on ?_ _) | (with_reducible refine below_set_on ?_ (by first | (simp; done) | (simp; omega) | omega) _))), by (repeat (first | (with_reducible assumption) | (with_reducible exact box_new _ _ _) | ((with_reducible apply box_at); (first | (with_reducible rfl) | (simp <;> omega))) | (with_reducible apply Box.drew) | (with_reducible apply Box.drewN) | (with_reducible apply Box.near) | (with_reducible apply Box.alloc) | ((with_reducible apply box_far); (first | assumption | omega | (simp <;> omega))) | ((with_reducible apply Box.one_set); (with_reducible assumption)) | ((with_reducible apply Box.two_set); (with_reducible assumption)) | ((with_reducible apply Box.three_set); (with_reducible assumption)) | (with_reducible apply Box.set) | (simp only [List.size_toArray, List.length_cons, List.length_nil, Array.size_setIfInBounds] <;> omega)))⟩ ?_
  rintro w0 ⟨A, F⟩
  have hst : FlSt u0 u1 false 0 ⟨#[]⟩ 0 := ⟨.inl rfl, .inl ⟨rfl, rfl, rfl⟩⟩
  have z0 : W.heap.size < W.heap.size + 1 := by omega
  generalize W.heap.size + 1 = f at *
  go_loopg [32] n (fun k i wr => ∃ (j : Nat) (a b : ByteArray) (q : Bool) (s : Int) (t : ByteArray) (m : Int), j ≤ n ∧ k = n - j ∧ i = .int .i64 (j : Nat) ∧ Below W.heap.size W wr ∧ Box wr f #[.string a, .string b, .bool q, .int .i64 s, .string t, .int .i64 m] ∧ FlSt a b q s t m)
  case atStart => exact ⟨0, u0, u1, false, 0, ⟨#[]⟩, 0, by omega, rfl, rfl, A, F, hst⟩
  case round =>
    clear A F hst
    obtain ⟨j, a, b, q, s, t, m, hj, rfl, rfl, A, F, hst⟩ := hrel
    by_cases hlt : j < n
    · obtain ⟨o, off, rfl, hbs, hcell⟩ := HI.out (by omega)
      obtain ⟨k0, k1, k2⟩ := hcell j hlt
      clear hcell
      replace k0 := (A.cell (p := ⟨o, off + j * 3, none⟩) hbs).trans k0
      replace k1 := (A.cell (p := ⟨o, off + j * 3 + 1, none⟩) hbs).trans k1
      replace k2 := (A.cell (p := ⟨o, off + j * 3 + 2, none⟩) hbs).trans k2
      generalize R j = kd at *
      generalize H j = sl at *
      generalize K j = tx at *
      obtain ⟨lF, cF, fF⟩ := id F
      have zb : o < wr.heap.size := Nat.lt_of_lt_of_le hbs A.size
      have zW : W.heap.size ≤ wr.heap.size := A.size
      by_cases hx : 100 < (tx.size : Int)
      · go_wp2_with (fail)
        refine (law15_awake _).mono ?_
        rintro e w2 ⟨rfl, hb⟩
        replace A : Below W.heap.size W w2 := by (refine below_call ?_ hb; (repeat (first | (with_reducible exact Below.refl _ _) | (with_reducible assumption) | (with_reducible refine Near.up _ ?_) | (with_reducible refine Below.drew ?_) | (with_reducible refine below_alloc_on ?_ _) | (with_reducible refine below_set_on ?_ (by first | (simp; done) | (simp; omega) | omega) _))))
        clear hb
        have z_w2 : W.heap.size ≤ w2.heap.size := A.size
        go_wp2
        all_goals go_ret
        all_goals exact ⟨rfl, A⟩
      · have t3 : decide (100 < (tx.size : Int)) = false := decide_eq_false hx
        have hk := hst.1
        go_upto_block 2 with (fail)
        refine at_world (fun W' => Below W.heap.size W W' ∧ Box W' f #[.string a, .string b, .bool q, .int .i64 s, .string t, .int .i64 m] ∧ Box W' wr.heap.size #[.int .i64 kd, .int .i64 sl, .string tx] ∧ Box W' (wr.heap.size + 1) #[.string a, .string b, .bool q, .int .i64 s, .string t, .int .i64 m]) ⟨by (repeat (first | (with_reducible exact Below.refl _ _) | (with_reducible assumption) | (with_reducible refine Near.up _ ?_) | (with_reducible refine Below.drew ?_) | (with_reducible refine below_alloc_on ?_ _) | (with_reducible refine below_set_on ?_ (by first | (simp; done) | (simp; omega) | omega) _))), by (repeat (first | (with_reducible assumption) | (with_reducible exact box_new _ _ _) | ((with_reducible apply box_at); (first | (with_reducible rfl) | (simp <;> omega))) | (with_reducible apply Box.drew) | (with_reducible apply Box.drewN) | (with_reducible apply Box.near) | (with_reducible apply Box.alloc) | ((with_reducible apply box_far); (first | assumption | omega | (simp <;> omega))) | ((with_reducible apply Box.one_set); (with_reducible assumption)) | ((with_reducible apply Box.two_set); (with_reducible assumption)) | ((with_reducible apply Box.three_set); (with_reducible assumption)) | (with_reducible apply Box.set) | (simp only [List.size_toArray, List.length_cons, List.length_nil, Array.size_setIfInBounds] <;> omega))), by (repeat (first | (with_reducible assumption) | (with_reducible exact box_new _ _ _) | ((with_reducible apply box_at); (first | (with_reducible rfl) | (simp <;> omega))) | (with_reducible apply Box.drew) | (with_reducible apply Box.drewN) | (with_reducible apply Box.near) | (with_reducible apply Box.alloc) | ((with_reducible apply box_far); (first | assumption | omega | (simp <;> omega))) | ((with_reducible apply Box.one_set); (with_reducible assumption)) | ((with_reducible apply Box.two_set); (with_reducible assumption)) | ((with_reducible apply Box.three_set); (with_reducible assumption)) | (with_reducible apply Box.set) | (simp only [List.size_toArray, List.length_cons, List.length_nil, Array.size_setIfInBounds] <;> omega))), by (repeat (first | (with_reducible assumption) | (with_reducible exact box_new _ _ _) | ((with_reducible apply box_at); (first | (with_reducible rfl) | (simp <;> omega))) | (with_reducible apply Box.drew) | (with_reducible apply Box.drewN) | (with_reducible apply Box.near) | (with_reducible apply Box.alloc) | ((with_reducible apply box_far); (first | assumption | omega | (simp <;> omega))) | ((with_reducible apply Box.one_set); (with_reducible assumption)) | ((with_reducible apply Box.two_set); (with_reducible assumption)) | ((with_reducible apply Box.three_set); (with_reducible assumption)) | (with_reducible apply Box.set) | (simp only [List.size_toArray, List.length_cons, List.length_nil, Array.size_setIfInBounds] <;> omega)))⟩ ?_
        rintro w0 ⟨A, F, D, G⟩
        have nfd : ¬ f = wr.heap.size := by omega
        have nfg : ¬ f = wr.heap.size + 1 := by omega
        have ndg : ¬ wr.heap.size = wr.heap.size + 1 := by omega
        have ngd : ¬ wr.heap.size + 1 = wr.heap.size := by omega
        have zg : W.heap.size ≤ wr.heap.size + 1 := by omega
        generalize wr.heap.size + 1 = g at *
        generalize wr.heap.size = d at *
        clear k0 k1 k2 lF cF fF zb
        obtain ⟨lF, cF, fF⟩ := id F
        obtain ⟨lD, cD, fD⟩ := id D
        obtain ⟨lG, cG, fG⟩ := id G
        have ngf : ¬ g = f := fun h => nfg h.symm
        have ndf : ¬ d = f := fun h => nfd h.symm
        go_cut [9, 10, 32] from 32 to 178 (fun x y i wx => i = .int .i64 (j : Nat) ∧ Below W.heap.size W wx ∧ Box wx f #[.string a, .string b, .bool q, .int .i64 s, .string t, .int .i64 m] ∧ Box wx d #[.int .i64 kd, .int .i64 sl, .string tx] ∧
          ∃ (a' b' : ByteArray) (q' : Bool) (s' : Int) (t' : ByteArray) (m' : Int), Box wx g #[.string a', .string b', .bool q', .int .i64 s', .string t', .int .i64 m'] ∧ FlSt a' b' q' s' t' m' ∧ (q = true → fz s b' a' = fz s b a) ∧ (q = false → 1 < kd → a' = a ∧ b' = b ∧ q' = q ∧ s' = s ∧ t' = t ∧ m' = m))
        case first =>
          go_upto_region 11 with (fail)
          go_cut [45, 32] from 32 to 178 (fun v i wx => v = .bool (decide (0 ≤ kd ∧ kd ≤ 1)) ∧ i = .int .i64 (j : Nat) ∧ w0 = wx)
          case first =>
            by_cases c0 : 0 ≤ kd
            · by_cases c1 : kd ≤ 1
              · as_aux_lemma =>
                  go_wp2
                  go_meet
                  exact ⟨by rw [decide_eq_true ⟨c0, c1⟩], rfl, rfl⟩
              · as_aux_lemma =>
                  go_wp2
                  go_meet
                  exact ⟨by rw [decide_eq_false (fun h => absurd h (by omega))], rfl, rfl⟩
            · go_wp2
              go_meet
              exact ⟨by rw [decide_eq_false (fun h => absurd h (by omega))], rfl, rfl⟩
          case rest =>
            obtain ⟨rfl, rfl, rfl⟩ := hcut
            have HST := Lib.hid hst
            by_cases cd : 0 ≤ kd ∧ kd ≤ 1
            · have t4 := decide_eq_true cd
              obtain ⟨A0, A1, A2, A3, A4, A5, E, hB, hE⟩ := d_begin a b q s t m sl tx
              have HB := Lib.hid hB
              rcases hE with hE | ⟨rfl, rfl, hs2, ha⟩
              · as_aux_lemma =>
                  go_wp2_with (fail)
                  refine (HB.out _).mono ?_
                  rintro e w2 ⟨rfl, hb⟩
                  replace A : Below W.heap.size W w2 := by (refine below_call ?_ hb; (repeat (first | (with_reducible exact Below.refl _ _) | (with_reducible assumption) | (with_reducible refine Near.up _ ?_) | (with_reducible refine Below.drew ?_) | (with_reducible refine below_alloc_on ?_ _) | (with_reducible refine below_set_on ?_ (by first | (simp; done) | (simp; omega) | omega) _))))
                  replace F := Box.below (g := f) (by (repeat (first | (with_reducible assumption) | (with_reducible exact box_new _ _ _) | ((with_reducible apply box_at); (first | (with_reducible rfl) | (simp <;> omega))) | (with_reducible apply Box.drew) | (with_reducible apply Box.drewN) | (with_reducible apply Box.near) | (with_reducible apply Box.alloc) | ((with_reducible apply box_far); (first | assumption | omega | (simp <;> omega))) | ((with_reducible apply Box.one_set); (with_reducible assumption)) | ((with_reducible apply Box.two_set); (with_reducible assumption)) | ((with_reducible apply Box.three_set); (with_reducible assumption)) | (with_reducible apply Box.set) | (simp only [List.size_toArray, List.length_cons, List.length_nil, Array.size_setIfInBounds] <;> omega)))) hb
                  (try simp only [List.setIfInBounds_toArray, List.set_cons_zero, List.set_cons_succ] at F)
                  (try clear cF fF)
                  replace D := Box.below (g := d) (by (repeat (first | (with_reducible assumption) | (with_reducible exact box_new _ _ _) | ((with_reducible apply box_at); (first | (with_reducible rfl) | (simp <;> omega))) | (with_reducible apply Box.drew) | (with_reducible apply Box.drewN) | (with_reducible apply Box.near) | (with_reducible apply Box.alloc) | ((with_reducible apply box_far); (first | assumption | omega | (simp <;> omega))) | ((with_reducible apply Box.one_set); (with_reducible assumption)) | ((with_reducible apply Box.two_set); (with_reducible assumption)) | ((with_reducible apply Box.three_set); (with_reducible assumption)) | (with_reducible apply Box.set) | (simp only [List.size_toArray, List.length_cons, List.length_nil, Array.size_setIfInBounds] <;> omega)))) hb
                  (try simp only [List.setIfInBounds_toArray, List.set_cons_zero, List.set_cons_succ] at D)
                  (try clear cD fD)
                  replace G := Box.below (g := g) (by (repeat (first | (with_reducible assumption) | (with_reducible exact box_new _ _ _) | ((with_reducible apply box_at); (first | (with_reducible rfl) | (simp <;> omega))) | (with_reducible apply Box.drew) | (with_reducible apply Box.drewN) | (with_reducible apply Box.near) | (with_reducible apply Box.alloc) | ((with_reducible apply box_far); (first | assumption | omega | (simp <;> omega))) | ((with_reducible apply Box.one_set); (with_reducible assumption)) | ((with_reducible apply Box.two_set); (with_reducible assumption)) | ((with_reducible apply Box.three_set); (with_reducible assumption)) | (with_reducible apply Box.set) | (simp only [List.size_toArray, List.length_cons, List.length_nil, Array.size_setIfInBounds] <;> omega)))) hb
                  (try simp only [List.setIfInBounds_toArray, List.set_cons_zero, List.set_cons_succ] at G)
                  (try clear cG fG)
                  clear hb
                  have z_w2 : W.heap.size ≤ w2.heap.size := A.size
                  obtain ⟨lF_w2, cF, fF⟩ := id F
                  obtain ⟨lD_w2, cD, fD⟩ := id D
                  obtain ⟨lG_w2, cG, fG⟩ := id G
                  go_wp2
                  refine at_world (fun W' => Below W.heap.size W W' ∧ Box W' f #[.string a, .string b, .bool q, .int .i64 s, .string t, .int .i64 m] ∧ Box W' d #[.int .i64 kd, .int .i64 sl, .string tx] ∧ Box W' g #[.string a, .string b, .bool q, .int .i64 s, .string t, .int .i64 m]) ⟨by (repeat (first | (with_reducible exact Below.refl _ _) | (with_reducible assumption) | (with_reducible refine Near.up _ ?_) | (with_reducible refine Below.drew ?_) | (with_reducible refine below_alloc_on ?_ _) | (with_reducible refine below_set_on ?_ (by first | (simp; done) | (simp; omega) | omega) _))), by (repeat (first | (with_reducible assumption) | (with_reducible exact box_new _ _ _) | ((with_reducible apply box_at); (first | (with_reducible rfl) | (simp <;> omega))) | (with_reducible apply Box.drew) | (with_reducible apply Box.drewN) | (with_reducible apply Box.near) | (with_reducible apply Box.alloc) | ((with_reducible apply box_far); (first | assumption | omega | (simp <;> omega))) | ((with_reducible apply Box.one_set); (with_reducible assumption)) | ((with_reducible apply Box.two_set); (with_reducible assumption)) | ((with_reducible apply Box.three_set); (with_reducible assumption)) | (with_reducible apply Box.set) | (simp only [List.size_toArray, List.length_cons, List.length_nil, Array.size_setIfInBounds] <;> omega))), by (repeat (first | (with_reducible assumption) | (with_reducible exact box_new _ _ _) | ((with_reducible apply box_at); (first | (with_reducible rfl) | (simp <;> omega))) | (with_reducible apply Box.drew) | (with_reducible apply Box.drewN) | (with_reducible apply Box.near) | (with_reducible apply Box.alloc) | ((with_reducible apply box_far); (first | assumption | omega | (simp <;> omega))) | ((with_reducible apply Box.one_set); (with_reducible assumption)) | ((with_reducible apply Box.two_set); (with_reducible assumption)) | ((with_reducible apply Box.three_set); (with_reducible assumption)) | (with_reducible apply Box.set) | (simp only [List.size_toArray, List.length_cons, List.length_nil, Array.size_setIfInBounds] <;> omega))), by (repeat (first | (with_reducible assumption) | (with_reducible exact box_new _ _ _) | ((with_reducible apply box_at); (first | (with_reducible rfl) | (simp <;> omega))) | (with_reducible apply Box.drew) | (with_reducible apply Box.drewN) | (with_reducible apply Box.near) | (with_reducible apply Box.alloc) | ((with_reducible apply box_far); (first | assumption | omega | (simp <;> omega))) | ((with_reducible apply Box.one_set); (with_reducible assumption)) | ((with_reducible apply Box.two_set); (with_reducible assumption)) | ((with_reducible apply Box.three_set); (with_reducible assumption)) | (with_reducible apply Box.set) | (simp only [List.size_toArray, List.length_cons, List.length_nil, Array.size_setIfInBounds] <;> omega)))⟩ ?_
                  rintro w5 ⟨A, F, D, G⟩
                  obtain ⟨lF, cF, fF⟩ := id F
                  obtain ⟨lD, cD, fD⟩ := id D
                  obtain ⟨lG, cG, fG⟩ := id G
                  refine wp_region_calm (by kernel_rfl) (by kernel_rfl) ?_
                  repeat (go_big_quiet_step ((fail)))
                  refine wpQuiet_nil ?_
                  intro _ hw'
                  obtain ⟨u, rfl⟩ := hw'
                  go_wp2
                  go_meet
                  exact ⟨rfl, u.up A, F.near u, D.near u, a, b, q, s, t, m, G.near u, HST.out, fun _ => rfl, fun _ h => absurd h (by omega)⟩
              · have HS2 := Lib.hid hs2
                rcases ha with ⟨rfl, rfl, rfl⟩ | ⟨rfl, rfl, rfl⟩
                · as_aux_lemma =>
                    go_wp2_with (fail)
                    refine (HB.out _).mono ?_
                    rintro e w2 ⟨rfl, hb⟩
                    replace A : Below W.heap.size W w2 := by (refine below_call ?_ hb; (repeat (first | (with_reducible exact Below.refl _ _) | (with_reducible assumption) | (with_reducible refine Near.up _ ?_) | (with_reducible refine Below.drew ?_) | (with_reducible refine below_alloc_on ?_ _) | (with_reducible refine below_set_on ?_ (by first | (simp; done) | (simp; omega) | omega) _))))
                    replace F := Box.below (g := f) (by (repeat (first | (with_reducible assumption) | (with_reducible exact box_new _ _ _) | ((with_reducible apply box_at); (first | (with_reducible rfl) | (simp <;> omega))) | (with_reducible apply Box.drew) | (with_reducible apply Box.drewN) | (with_reducible apply Box.near) | (with_reducible apply Box.alloc) | ((with_reducible apply box_far); (first | assumption | omega | (simp <;> omega))) | ((with_reducible apply Box.one_set); (with_reducible assumption)) | ((with_reducible apply Box.two_set); (with_reducible assumption)) | ((with_reducible apply Box.three_set); (with_reducible assumption)) | (with_reducible apply Box.set) | (simp only [List.size_toArray, List.length_cons, List.length_nil, Array.size_setIfInBounds] <;> omega)))) hb
                    (try simp only [List.setIfInBounds_toArray, List.set_cons_zero, List.set_cons_succ] at F)
                    (try clear cF fF)
                    replace D := Box.below (g := d) (by (repeat (first | (with_reducible assumption) | (with_reducible exact box_new _ _ _) | ((with_reducible apply box_at); (first | (with_reducible rfl) | (simp <;> omega))) | (with_reducible apply Box.drew) | (with_reducible apply Box.drewN) | (with_reducible apply Box.near) | (with_reducible apply Box.alloc) | ((with_reducible apply box_far); (first | assumption | omega | (simp <;> omega))) | ((with_reducible apply Box.one_set); (with_reducible assumption)) | ((with_reducible apply Box.two_set); (with_reducible assumption)) | ((with_reducible apply Box.three_set); (with_reducible assumption)) | (with_reducible apply Box.set) | (simp only [List.size_toArray, List.length_cons, List.length_nil, Array.size_setIfInBounds] <;> omega)))) hb
                    (try simp only [List.setIfInBounds_toArray, List.set_cons_zero, List.set_cons_succ] at D)
                    (try clear cD fD)
                    replace G := Box.below (g := g) (by (repeat (first | (with_reducible assumption) | (with_reducible exact box_new _ _ _) | ((with_reducible apply box_at); (first | (with_reducible rfl) | (simp <;> omega))) | (with_reducible apply Box.drew) | (with_reducible apply Box.drewN) | (with_reducible apply Box.near) | (with_reducible apply Box.alloc) | ((with_reducible apply box_far); (first | assumption | omega | (simp <;> omega))) | ((with_reducible apply Box.one_set); (with_reducible assumption)) | ((with_reducible apply Box.two_set); (with_reducible assumption)) | ((with_reducible apply Box.three_set); (with_reducible assumption)) | (with_reducible apply Box.set) | (simp only [List.size_toArray, List.length_cons, List.length_nil, Array.size_setIfInBounds] <;> omega)))) hb
                    (try simp only [List.setIfInBounds_toArray, List.set_cons_zero, List.set_cons_succ] at G)
                    (try clear cG fG)
                    clear hb
                    have z_w2 : W.heap.size ≤ w2.heap.size := A.size
                    obtain ⟨lF_w2, cF, fF⟩ := id F
                    obtain ⟨lD_w2, cD, fD⟩ := id D
                    obtain ⟨lG_w2, cG, fG⟩ := id G
                    go_wp2
                    have G5 := Box.six_set G (.string ⟨#[]⟩) (.string b) (.bool A2) (.int .i64 0) (.string A4) (.int .i64 A5)
                    refine at_world (fun W' => Below W.heap.size W W' ∧ Box W' f #[.string a, .string b, .bool false, .int .i64 s, .string t, .int .i64 m] ∧ Box W' d #[.int .i64 kd, .int .i64 sl, .string tx] ∧ Box W' g #[.string ⟨#[]⟩, .string b, .bool A2, .int .i64 0, .string A4, .int .i64 A5]) ⟨by (repeat (first | (with_reducible exact Below.refl _ _) | (with_reducible assumption) | (with_reducible refine Near.up _ ?_) | (with_reducible refine Below.drew ?_) | (with_reducible refine below_alloc_on ?_ _) | (with_reducible refine below_set_on ?_ (by first | (simp; done) | (simp; omega) | omega) _))), by (repeat (first | (with_reducible assumption) | (with_reducible exact box_new _ _ _) | ((with_reducible apply box_at); (first | (with_reducible rfl) | (simp <;> omega))) | (with_reducible apply Box.drew) | (with_reducible apply Box.drewN) | (with_reducible apply Box.near) | (with_reducible apply Box.alloc) | ((with_reducible apply box_far); (first | assumption | omega | (simp <;> omega))) | ((with_reducible apply Box.one_set); (with_reducible assumption)) | ((with_reducible apply Box.two_set); (with_reducible assumption)) | ((with_reducible apply Box.three_set); (with_reducible assumption)) | (with_reducible apply Box.set) | (simp only [List.size_toArray, List.length_cons, List.length_nil, Array.size_setIfInBounds] <;> omega))), by (repeat (first | (with_reducible assumption) | (with_reducible exact box_new _ _ _) | ((with_reducible apply box_at); (first | (with_reducible rfl) | (simp <;> omega))) | (with_reducible apply Box.drew) | (with_reducible apply Box.drewN) | (with_reducible apply Box.near) | (with_reducible apply Box.alloc) | ((with_reducible apply box_far); (first | assumption | omega | (simp <;> omega))) | ((with_reducible apply Box.one_set); (with_reducible assumption)) | ((with_reducible apply Box.two_set); (with_reducible assumption)) | ((with_reducible apply Box.three_set); (with_reducible assumption)) | (with_reducible apply Box.set) | (simp only [List.size_toArray, List.length_cons, List.length_nil, Array.size_setIfInBounds] <;> omega))), by (repeat (first | (with_reducible assumption) | (with_reducible exact box_new _ _ _) | ((with_reducible apply box_at); (first | (with_reducible rfl) | (simp <;> omega))) | (with_reducible apply Box.drew) | (with_reducible apply Box.drewN) | (with_reducible apply Box.near) | (with_reducible apply Box.alloc) | ((with_reducible apply box_far); (first | assumption | omega | (simp <;> omega))) | ((with_reducible apply Box.one_set); (with_reducible assumption)) | ((with_reducible apply Box.two_set); (with_reducible assumption)) | ((with_reducible apply Box.three_set); (with_reducible assumption)) | (with_reducible apply Box.set) | (simp only [List.size_toArray, List.length_cons, List.length_nil, Array.size_setIfInBounds] <;> omega)))⟩ ?_
                    rintro w5 ⟨A, F, D, G⟩
                    obtain ⟨lF, cF, fF⟩ := id F
                    obtain ⟨lD, cD, fD⟩ := id D
                    obtain ⟨lG, cG, fG⟩ := id G
                    refine wp_region_calm (by kernel_rfl) (by kernel_rfl) ?_
                    repeat (go_big_quiet_step ((fail)))
                    refine wpQuiet_nil ?_
                    intro _ hw'
                    obtain ⟨u, rfl⟩ := hw'
                    go_wp2
                    go_meet
                    exact ⟨rfl, u.up A, F.near u, D.near u, _, _, _, _, _, _, G.near u, HS2.out, fun h => by simp at h, fun _ h => absurd h (by omega)⟩
                · as_aux_lemma =>
                    go_wp2_with (fail)
                    refine (HB.out _).mono ?_
                    rintro e w2 ⟨rfl, hb⟩
                    replace A : Below W.heap.size W w2 := by (refine below_call ?_ hb; (repeat (first | (with_reducible exact Below.refl _ _) | (with_reducible assumption) | (with_reducible refine Near.up _ ?_) | (with_reducible refine Below.drew ?_) | (with_reducible refine below_alloc_on ?_ _) | (with_reducible refine below_set_on ?_ (by first | (simp; done) | (simp; omega) | omega) _))))
                    replace F := Box.below (g := f) (by (repeat (first | (with_reducible assumption) | (with_reducible exact box_new _ _ _) | ((with_reducible apply box_at); (first | (with_reducible rfl) | (simp <;> omega))) | (with_reducible apply Box.drew) | (with_reducible apply Box.drewN) | (with_reducible apply Box.near) | (with_reducible apply Box.alloc) | ((with_reducible apply box_far); (first | assumption | omega | (simp <;> omega))) | ((with_reducible apply Box.one_set); (with_reducible assumption)) | ((with_reducible apply Box.two_set); (with_reducible assumption)) | ((with_reducible apply Box.three_set); (with_reducible assumption)) | (with_reducible apply Box.set) | (simp only [List.size_toArray, List.length_cons, List.length_nil, Array.size_setIfInBounds] <;> omega)))) hb
                    (try simp only [List.setIfInBounds_toArray, List.set_cons_zero, List.set_cons_succ] at F)
                    (try clear cF fF)
                    replace D := Box.below (g := d) (by (repeat (first | (with_reducible assumption) | (with_reducible exact box_new _ _ _) | ((with_reducible apply box_at); (first | (with_reducible rfl) | (simp <;> omega))) | (with_reducible apply Box.drew) | (with_reducible apply Box.drewN) | (with_reducible apply Box.near) | (with_reducible apply Box.alloc) | ((with_reducible apply box_far); (first | assumption | omega | (simp <;> omega))) | ((with_reducible apply Box.one_set); (with_reducible assumption)) | ((with_reducible apply Box.two_set); (with_reducible assumption)) | ((with_reducible apply Box.three_set); (with_reducible assumption)) | (with_reducible apply Box.set) | (simp only [List.size_toArray, List.length_cons, List.length_nil, Array.size_setIfInBounds] <;> omega)))) hb
                    (try simp only [List.setIfInBounds_toArray, List.set_cons_zero, List.set_cons_succ] at D)
                    (try clear cD fD)
                    replace G := Box.below (g := g) (by (repeat (first | (with_reducible assumption) | (with_reducible exact box_new _ _ _) | ((with_reducible apply box_at); (first | (with_reducible rfl) | (simp <;> omega))) | (with_reducible apply Box.drew) | (with_reducible apply Box.drewN) | (with_reducible apply Box.near) | (with_reducible apply Box.alloc) | ((with_reducible apply box_far); (first | assumption | omega | (simp <;> omega))) | ((with_reducible apply Box.one_set); (with_reducible assumption)) | ((with_reducible apply Box.two_set); (with_reducible assumption)) | ((with_reducible apply Box.three_set); (with_reducible assumption)) | (with_reducible apply Box.set) | (simp only [List.size_toArray, List.length_cons, List.length_nil, Array.size_setIfInBounds] <;> omega)))) hb
                    (try simp only [List.setIfInBounds_toArray, List.set_cons_zero, List.set_cons_succ] at G)
                    (try clear cG fG)
                    clear hb
                    have z_w2 : W.heap.size ≤ w2.heap.size := A.size
                    obtain ⟨lF_w2, cF, fF⟩ := id F
                    obtain ⟨lD_w2, cD, fD⟩ := id D
                    obtain ⟨lG_w2, cG, fG⟩ := id G
                    go_wp2
                    have G5 := Box.six_set G (.string a) (.string ⟨#[]⟩) (.bool A2) (.int .i64 1) (.string A4) (.int .i64 A5)
                    refine at_world (fun W' => Below W.heap.size W W' ∧ Box W' f #[.string a, .string b, .bool false, .int .i64 s, .string t, .int .i64 m] ∧ Box W' d #[.int .i64 kd, .int .i64 sl, .string tx] ∧ Box W' g #[.string a, .string ⟨#[]⟩, .bool A2, .int .i64 1, .string A4, .int .i64 A5]) ⟨by (repeat (first | (with_reducible exact Below.refl _ _) | (with_reducible assumption) | (with_reducible refine Near.up _ ?_) | (with_reducible refine Below.drew ?_) | (with_reducible refine below_alloc_on ?_ _) | (with_reducible refine below_set_on ?_ (by first | (simp; done) | (simp; omega) | omega) _))), by (repeat (first | (with_reducible assumption) | (with_reducible exact box_new _ _ _) | ((with_reducible apply box_at); (first | (with_reducible rfl) | (simp <;> omega))) | (with_reducible apply Box.drew) | (with_reducible apply Box.drewN) | (with_reducible apply Box.near) | (with_reducible apply Box.alloc) | ((with_reducible apply box_far); (first | assumption | omega | (simp <;> omega))) | ((with_reducible apply Box.one_set); (with_reducible assumption)) | ((with_reducible apply Box.two_set); (with_reducible assumption)) | ((with_reducible apply Box.three_set); (with_reducible assumption)) | (with_reducible apply Box.set) | (simp only [List.size_toArray, List.length_cons, List.length_nil, Array.size_setIfInBounds] <;> omega))), by (repeat (first | (with_reducible assumption) | (with_reducible exact box_new _ _ _) | ((with_reducible apply box_at); (first | (with_reducible rfl) | (simp <;> omega))) | (with_reducible apply Box.drew) | (with_reducible apply Box.drewN) | (with_reducible apply Box.near) | (with_reducible apply Box.alloc) | ((with_reducible apply box_far); (first | assumption | omega | (simp <;> omega))) | ((with_reducible apply Box.one_set); (with_reducible assumption)) | ((with_reducible apply Box.two_set); (with_reducible assumption)) | ((with_reducible apply Box.three_set); (with_reducible assumption)) | (with_reducible apply Box.set) | (simp only [List.size_toArray, List.length_cons, List.length_nil, Array.size_setIfInBounds] <;> omega))), by (repeat (first | (with_reducible assumption) | (with_reducible exact box_new _ _ _) | ((with_reducible apply box_at); (first | (with_reducible rfl) | (simp <;> omega))) | (with_reducible apply Box.drew) | (with_reducible apply Box.drewN) | (with_reducible apply Box.near) | (with_reducible apply Box.alloc) | ((with_reducible apply box_far); (first | assumption | omega | (simp <;> omega))) | ((with_reducible apply Box.one_set); (with_reducible assumption)) | ((with_reducible apply Box.two_set); (with_reducible assumption)) | ((with_reducible apply Box.three_set); (with_reducible assumption)) | (with_reducible apply Box.set) | (simp only [List.size_toArray, List.length_cons, List.length_nil, Array.size_setIfInBounds] <;> omega)))⟩ ?_
                    rintro w5 ⟨A, F, D, G⟩
                    obtain ⟨lF, cF, fF⟩ := id F
                    obtain ⟨lD, cD, fD⟩ := id D
                    obtain ⟨lG, cG, fG⟩ := id G
                    refine wp_region_calm (by kernel_rfl) (by kernel_rfl) ?_
                    repeat (go_big_quiet_step ((fail)))
                    refine wpQuiet_nil ?_
                    intro _ hw'
                    obtain ⟨u, rfl⟩ := hw'
                    go_wp2
                    go_meet
                    exact ⟨rfl, u.up A, F.near u, D.near u, _, _, _, _, _, _, G.near u, HS2.out, fun h => by simp at h, fun _ h => absurd h (by omega)⟩
            · have t4 : decide (0 ≤ kd ∧ kd ≤ 1) = false := decide_eq_false cd
              rcases (show kd < 0 ∨ (2 ≤ kd ∧ kd ≤ 5) ∨ kd = 6 ∨ 6 < kd by omega) with c0 | ⟨c0, c1⟩ | rfl | c0
              · as_aux_lemma =>
                  go_wp2
                  go_meet
                  exact ⟨rfl, A, F, D, _, _, _, _, _, _, G, HST.out, fun _ => rfl, fun _ _ => ⟨rfl, rfl, rfl, rfl, rfl, rfl⟩⟩
              · as_aux_lemma =>
                  obtain ⟨A0, A1, A2, A3, A4, A5, E, hB, hE⟩ := d_step hst (decide (kd < 5))
                  have HB := Lib.hid hB
                  have HE := Lib.hid hE
                  clear hE hB
                  go_wp2_with (fail)
                  refine (HB.out _).mono ?_
                  rintro e w2 ⟨rfl, hb⟩
                  replace A : Below W.heap.size W w2 := by (refine below_call ?_ hb; (repeat (first | (with_reducible exact Below.refl _ _) | (with_reducible assumption) | (with_reducible refine Near.up _ ?_) | (with_reducible refine Below.drew ?_) | (with_reducible refine below_alloc_on ?_ _) | (with_reducible refine below_set_on ?_ (by first | (simp; done) | (simp; omega) | omega) _))))
                  replace F := Box.below (g := f) (by (repeat (first | (with_reducible assumption) | (with_reducible exact box_new _ _ _) | ((with_reducible apply box_at); (first | (with_reducible rfl) | (simp <;> omega))) | (with_reducible apply Box.drew) | (with_reducible apply Box.drewN) | (with_reducible apply Box.near) | (with_reducible apply Box.alloc) | ((with_reducible apply box_far); (first | assumption | omega | (simp <;> omega))) | ((with_reducible apply Box.one_set); (with_reducible assumption)) | ((with_reducible apply Box.two_set); (with_reducible assumption)) | ((with_reducible apply Box.three_set); (with_reducible assumption)) | (with_reducible apply Box.set) | (simp only [List.size_toArray, List.length_cons, List.length_nil, Array.size_setIfInBounds] <;> omega)))) hb
                  (try simp only [List.setIfInBounds_toArray, List.set_cons_zero, List.set_cons_succ] at F)
                  (try clear cF fF)
                  replace D := Box.below (g := d) (by (repeat (first | (with_reducible assumption) | (with_reducible exact box_new _ _ _) | ((with_reducible apply box_at); (first | (with_reducible rfl) | (simp <;> omega))) | (with_reducible apply Box.drew) | (with_reducible apply Box.drewN) | (with_reducible apply Box.near) | (with_reducible apply Box.alloc) | ((with_reducible apply box_far); (first | assumption | omega | (simp <;> omega))) | ((with_reducible apply Box.one_set); (with_reducible assumption)) | ((with_reducible apply Box.two_set); (with_reducible assumption)) | ((with_reducible apply Box.three_set); (with_reducible assumption)) | (with_reducible apply Box.set) | (simp only [List.size_toArray, List.length_cons, List.length_nil, Array.size_setIfInBounds] <;> omega)))) hb
                  (try simp only [List.setIfInBounds_toArray, List.set_cons_zero, List.set_cons_succ] at D)
                  (try clear cD fD)
                  replace G := Box.below (g := g) (by (repeat (first | (with_reducible assumption) | (with_reducible exact box_new _ _ _) | ((with_reducible apply box_at); (first | (with_reducible rfl) | (simp <;> omega))) | (with_reducible apply Box.drew) | (with_reducible apply Box.drewN) | (with_reducible apply Box.near) | (with_reducible apply Box.alloc) | ((with_reducible apply box_far); (first | assumption | omega | (simp <;> omega))) | ((with_reducible apply Box.one_set); (with_reducible assumption)) | ((with_reducible apply Box.two_set); (with_reducible assumption)) | ((with_reducible apply Box.three_set); (with_reducible assumption)) | (with_reducible apply Box.set) | (simp only [List.size_toArray, List.length_cons, List.length_nil, Array.size_setIfInBounds] <;> omega)))) hb
                  (try simp only [List.setIfInBounds_toArray, List.set_cons_zero, List.set_cons_succ] at G)
                  (try clear cG fG)
                  clear hb
                  have z_w2 : W.heap.size ≤ w2.heap.size := A.size
                  obtain ⟨lF_w2, cF, fF⟩ := id F
                  obtain ⟨lD_w2, cD, fD⟩ := id D
                  obtain ⟨lG_w2, cG, fG⟩ := id G
                  have G5 := Box.six_set G (.string A0) (.string A1) (.bool A2) (.int .i64 A3) (.string A4) (.int .i64 A5)
                  go_wp2
                  go_meet
                  exact ⟨rfl, by (repeat (first | (with_reducible exact Below.refl _ _) | (with_reducible assumption) | (with_reducible refine Near.up _ ?_) | (with_reducible refine Below.drew ?_) | (with_reducible refine below_alloc_on ?_ _) | (with_reducible refine below_set_on ?_ (by first | (simp; done) | (simp; omega) | omega) _))), by (repeat (first | (with_reducible assumption) | (with_reducible exact box_new _ _ _) | ((with_reducible apply box_at); (first | (with_reducible rfl) | (simp <;> omega))) | (with_reducible apply Box.drew) | (with_reducible apply Box.drewN) | (with_reducible apply Box.near) | (with_reducible apply Box.alloc) | ((with_reducible apply box_far); (first | assumption | omega | (simp <;> omega))) | ((with_reducible apply Box.one_set); (with_reducible assumption)) | ((with_reducible apply Box.two_set); (with_reducible assumption)) | ((with_reducible apply Box.three_set); (with_reducible assumption)) | (with_reducible apply Box.set) | (simp only [List.size_toArray, List.length_cons, List.length_nil, Array.size_setIfInBounds] <;> omega))), by (repeat (first | (with_reducible assumption) | (with_reducible exact box_new _ _ _) | ((with_reducible apply box_at); (first | (with_reducible rfl) | (simp <;> omega))) | (with_reducible apply Box.drew) | (with_reducible apply Box.drewN) | (with_reducible apply Box.near) | (with_reducible apply Box.alloc) | ((with_reducible apply box_far); (first | assumption | omega | (simp <;> omega))) | ((with_reducible apply Box.one_set); (with_reducible assumption)) | ((with_reducible apply Box.two_set); (with_reducible assumption)) | ((with_reducible apply Box.three_set); (with_reducible assumption)) | (with_reducible apply Box.set) | (simp only [List.size_toArray, List.length_cons, List.length_nil, Array.size_setIfInBounds] <;> omega))), _, _, _, _, _, _, by (repeat (first | (with_reducible assumption) | (with_reducible exact box_new _ _ _) | ((with_reducible apply box_at); (first | (with_reducible rfl) | (simp <;> omega))) | (with_reducible apply Box.drew) | (with_reducible apply Box.drewN) | (with_reducible apply Box.near) | (with_reducible apply Box.alloc) | ((with_reducible apply box_far); (first | assumption | omega | (simp <;> omega))) | ((with_reducible apply Box.one_set); (with_reducible assumption)) | ((with_reducible apply Box.two_set); (with_reducible assumption)) | ((with_reducible apply Box.three_set); (with_reducible assumption)) | (with_reducible apply Box.set) | (simp only [List.size_toArray, List.length_cons, List.length_nil, Array.size_setIfInBounds] <;> omega))), HE.out.1, HE.out.2.1, fun h _ => HE.out.2.2 h⟩
              · as_aux_lemma =>
                  obtain ⟨A0, A1, A2, A3, A4, A5, hB, hE⟩ := d_cut hst tx
                  have HB := Lib.hid hB
                  have HE := Lib.hid hE
                  clear hE hB
                  go_wp2_with (fail)
                  refine (HB.out _).mono ?_
                  rintro e w2 ⟨rfl, hb⟩
                  replace A : Below W.heap.size W w2 := by (refine below_call ?_ hb; (repeat (first | (with_reducible exact Below.refl _ _) | (with_reducible assumption) | (with_reducible refine Near.up _ ?_) | (with_reducible refine Below.drew ?_) | (with_reducible refine below_alloc_on ?_ _) | (with_reducible refine below_set_on ?_ (by first | (simp; done) | (simp; omega) | omega) _))))
                  replace F := Box.below (g := f) (by (repeat (first | (with_reducible assumption) | (with_reducible exact box_new _ _ _) | ((with_reducible apply box_at); (first | (with_reducible rfl) | (simp <;> omega))) | (with_reducible apply Box.drew) | (with_reducible apply Box.drewN) | (with_reducible apply Box.near) | (with_reducible apply Box.alloc) | ((with_reducible apply box_far); (first | assumption | omega | (simp <;> omega))) | ((with_reducible apply Box.one_set); (with_reducible assumption)) | ((with_reducible apply Box.two_set); (with_reducible assumption)) | ((with_reducible apply Box.three_set); (with_reducible assumption)) | (with_reducible apply Box.set) | (simp only [List.size_toArray, List.length_cons, List.length_nil, Array.size_setIfInBounds] <;> omega)))) hb
                  (try simp only [List.setIfInBounds_toArray, List.set_cons_zero, List.set_cons_succ] at F)
                  (try clear cF fF)
                  replace D := Box.below (g := d) (by (repeat (first | (with_reducible assumption) | (with_reducible exact box_new _ _ _) | ((with_reducible apply box_at); (first | (with_reducible rfl) | (simp <;> omega))) | (with_reducible apply Box.drew) | (with_reducible apply Box.drewN) | (with_reducible apply Box.near) | (with_reducible apply Box.alloc) | ((with_reducible apply box_far); (first | assumption | omega | (simp <;> omega))) | ((with_reducible apply Box.one_set); (with_reducible assumption)) | ((with_reducible apply Box.two_set); (with_reducible assumption)) | ((with_reducible apply Box.three_set); (with_reducible assumption)) | (with_reducible apply Box.set) | (simp only [List.size_toArray, List.length_cons, List.length_nil, Array.size_setIfInBounds] <;> omega)))) hb
                  (try simp only [List.setIfInBounds_toArray, List.set_cons_zero, List.set_cons_succ] at D)
                  (try clear cD fD)
                  replace G := Box.below (g := g) (by (repeat (first | (with_reducible assumption) | (with_reducible exact box_new _ _ _) | ((with_reducible apply box_at); (first | (with_reducible rfl) | (simp <;> omega))) | (with_reducible apply Box.drew) | (with_reducible apply Box.drewN) | (with_reducible apply Box.near) | (with_reducible apply Box.alloc) | ((with_reducible apply box_far); (first | assumption | omega | (simp <;> omega))) | ((with_reducible apply Box.one_set); (with_reducible assumption)) | ((with_reducible apply Box.two_set); (with_reducible assumption)) | ((with_reducible apply Box.three_set); (with_reducible assumption)) | (with_reducible apply Box.set) | (simp only [List.size_toArray, List.length_cons, List.length_nil, Array.size_setIfInBounds] <;> omega)))) hb
                  (try simp only [List.setIfInBounds_toArray, List.set_cons_zero, List.set_cons_succ] at G)
                  (try clear cG fG)
                  clear hb
                  have z_w2 : W.heap.size ≤ w2.heap.size := A.size
                  obtain ⟨lF_w2, cF, fF⟩ := id F
                  obtain ⟨lD_w2, cD, fD⟩ := id D
                  obtain ⟨lG_w2, cG, fG⟩ := id G
                  have G5 := Box.six_set G (.string A0) (.string A1) (.bool A2) (.int .i64 A3) (.string A4) (.int .i64 A5)
                  go_wp2
                  go_meet
                  exact ⟨rfl, by (repeat (first | (with_reducible exact Below.refl _ _) | (with_reducible assumption) | (with_reducible refine Near.up _ ?_) | (with_reducible refine Below.drew ?_) | (with_reducible refine below_alloc_on ?_ _) | (with_reducible refine below_set_on ?_ (by first | (simp; done) | (simp; omega) | omega) _))), by (repeat (first | (with_reducible assumption) | (with_reducible exact box_new _ _ _) | ((with_reducible apply box_at); (first | (with_reducible rfl) | (simp <;> omega))) | (with_reducible apply Box.drew) | (with_reducible apply Box.drewN) | (with_reducible apply Box.near) | (with_reducible apply Box.alloc) | ((with_reducible apply box_far); (first | assumption | omega | (simp <;> omega))) | ((with_reducible apply Box.one_set); (with_reducible assumption)) | ((with_reducible apply Box.two_set); (with_reducible assumption)) | ((with_reducible apply Box.three_set); (with_reducible assumption)) | (with_reducible apply Box.set) | (simp only [List.size_toArray, List.length_cons, List.length_nil, Array.size_setIfInBounds] <;> omega))), by (repeat (first | (with_reducible assumption) | (with_reducible exact box_new _ _ _) | ((with_reducible apply box_at); (first | (with_reducible rfl) | (simp <;> omega))) | (with_reducible apply Box.drew) | (with_reducible apply Box.drewN) | (with_reducible apply Box.near) | (with_reducible apply Box.alloc) | ((with_reducible apply box_far); (first | assumption | omega | (simp <;> omega))) | ((with_reducible apply Box.one_set); (with_reducible assumption)) | ((with_reducible apply Box.two_set); (with_reducible assumption)) | ((with_reducible apply Box.three_set); (with_reducible assumption)) | (with_reducible apply Box.set) | (simp only [List.size_toArray, List.length_cons, List.length_nil, Array.size_setIfInBounds] <;> omega))), _, _, _, _, _, _, by (repeat (first | (with_reducible assumption) | (with_reducible exact box_new _ _ _) | ((with_reducible apply box_at); (first | (with_reducible rfl) | (simp <;> omega))) | (with_reducible apply Box.drew) | (with_reducible apply Box.drewN) | (with_reducible apply Box.near) | (with_reducible apply Box.alloc) | ((with_reducible apply box_far); (first | assumption | omega | (simp <;> omega))) | ((with_reducible apply Box.one_set); (with_reducible assumption)) | ((with_reducible apply Box.two_set); (with_reducible assumption)) | ((with_reducible apply Box.three_set); (with_reducible assumption)) | (with_reducible apply Box.set) | (simp only [List.size_toArray, List.length_cons, List.length_nil, Array.size_setIfInBounds] <;> omega))), HE.out.1, HE.out.2.1, fun h _ => HE.out.2.2 h⟩
              · as_aux_lemma =>
                  go_wp2
                  go_meet
                  exact ⟨rfl, A, F, D, _, _, _, _, _, _, G, HST.out, fun _ => rfl, fun _ _ => ⟨rfl, rfl, rfl, rfl, rfl, rfl⟩⟩
        case rest =>
          clear hst lF cF fF lD cD fD lG cG fG A F D G zg zW
          obtain ⟨rfl, A, F, D, a', b', q', s', t', m', G, hst', h1, h2⟩ := hcut
          have HS := Lib.hid hst'
          obtain ⟨hs', hq'⟩ := hst'
          have hway : (fz s b' a' = fz s b a ∧ q = true) ∨ (a' = a ∧ b' = b ∧ q' = q ∧ s' = s ∧ t' = t ∧ m' = m ∧ q = false ∧ 1 < kd) ∨ (q = false ∧ ¬ 1 < kd) := by
            cases q
            · by_cases h : 1 < kd
              · obtain ⟨e1, e2, e3, e4, e5, e6⟩ := h2 rfl h
                exact .inr (.inl ⟨e1, e2, e3, e4, e5, e6, rfl, h⟩)
              · exact .inr (.inr ⟨rfl, h⟩)
            · exact .inl ⟨h1 rfl, rfl⟩
          clear h1 h2
          have hand : bits .and .i64 s 1 = s := by rw [and_one]; omega
          obtain ⟨lF, cF, fF⟩ := id F
          obtain ⟨lD, cD, fD⟩ := id D
          obtain ⟨lG, cG, fG⟩ := id G
          go_upto_region 22 with (fail)
          clear hand
          go_cut [157, 32] from 32 to 178 (fun p i wx => p = .bool false ∧ i = .int .i64 (j : Nat) ∧ Below W.heap.size W wx ∧ (∃ x0 x1 x2 x3 x4 x5, Box wx f #[x0, x1, x2, x3, x4, x5]) ∧ ∃ (a2 b2 : ByteArray) (q2 : Bool) (s2 : Int) (t2 : ByteArray) (m2 : Int), Box wx g #[.string a2, .string b2, .bool q2, .int .i64 s2, .string t2, .int .i64 m2] ∧ FlSt a2 b2 q2 s2 t2 m2)
          case first =>
            rcases hk with rfl | rfl
            all_goals rcases hway with ⟨e, rfl⟩ | ⟨rfl, rfl, rfl, rfl, rfl, rfl, rfl, h5⟩ | ⟨rfl, h5⟩
            all_goals (try (first | (change b' = b at e; subst e) | (change a' = a at e; subst e)))
            · as_aux_lemma =>
                refine wp_region_calm (by kernel_rfl) (by kernel_rfl) ?_
                repeat (go_big_quiet_step ((fail)))
                refine wpQuiet_nil ?_
                intro _ hw'
                obtain ⟨u, rfl⟩ := hw'
                go_wp2
                go_meet
                exact ⟨rfl, rfl, u.up A, ⟨_, _, _, _, _, _, F.near u⟩, _, _, _, _, _, _, G.near u, HS.out⟩
            · as_aux_lemma =>
                have d5 := decide_eq_true h5
                refine wp_region_calm (by kernel_rfl) (by kernel_rfl) ?_
                repeat (go_big_quiet_step ((fail)))
                refine wpQuiet_nil ?_
                intro _ hw'
                obtain ⟨u, rfl⟩ := hw'
                go_wp2
                go_meet
                exact ⟨rfl, rfl, u.up A, ⟨_, _, _, _, _, _, F.near u⟩, _, _, _, _, _, _, G.near u, HS.out⟩
            · have d5 := decide_eq_false h5
              rcases Bool.eq_false_or_eq_true (b'.toList == b.toList) with hN | hN
              · as_aux_lemma =>
                  refine wp_region_calm (by kernel_rfl) (by kernel_rfl) ?_
                  repeat (go_big_quiet_step ((fail)))
                  refine wpQuiet_nil ?_
                  intro _ hw'
                  obtain ⟨u, rfl⟩ := hw'
                  go_wp2
                  go_meet
                  exact ⟨rfl, rfl, u.up A, ⟨_, _, _, _, _, _, F.near u⟩, _, _, _, _, _, _, G.near u, HS.out⟩
              · as_aux_lemma =>
                  refine wp_region_calm (by kernel_rfl) (by kernel_rfl) ?_
                  repeat (go_big_quiet_step ((fail)))
                  refine wpQuiet_nil ?_
                  intro _ hw'
                  obtain ⟨u, rfl⟩ := hw'
                  go_wp2
                  go_meet
                  exact ⟨rfl, rfl, u.up A, ⟨_, _, _, _, _, _, F.near u⟩, _, _, _, _, _, _, G.near u, HS.out⟩
            · as_aux_lemma =>
                refine wp_region_calm (by kernel_rfl) (by kernel_rfl) ?_
                repeat (go_big_quiet_step ((fail)))
                refine wpQuiet_nil ?_
                intro _ hw'
                obtain ⟨u, rfl⟩ := hw'
                go_wp2
                go_meet
                exact ⟨rfl, rfl, u.up A, ⟨_, _, _, _, _, _, F.near u⟩, _, _, _, _, _, _, G.near u, HS.out⟩
            · as_aux_lemma =>
                have d5 := decide_eq_true h5
                refine wp_region_calm (by kernel_rfl) (by kernel_rfl) ?_
                repeat (go_big_quiet_step ((fail)))
                refine wpQuiet_nil ?_
                intro _ hw'
                obtain ⟨u, rfl⟩ := hw'
                go_wp2
                go_meet
                exact ⟨rfl, rfl, u.up A, ⟨_, _, _, _, _, _, F.near u⟩, _, _, _, _, _, _, G.near u, HS.out⟩
            · have d5 := decide_eq_false h5
              rcases Bool.eq_false_or_eq_true (a'.toList == a.toList) with hN | hN
              · as_aux_lemma =>
                  refine wp_region_calm (by kernel_rfl) (by kernel_rfl) ?_
                  repeat (go_big_quiet_step ((fail)))
                  refine wpQuiet_nil ?_
                  intro _ hw'
                  obtain ⟨u, rfl⟩ := hw'
                  go_wp2
                  go_meet
                  exact ⟨rfl, rfl, u.up A, ⟨_, _, _, _, _, _, F.near u⟩, _, _, _, _, _, _, G.near u, HS.out⟩
              · as_aux_lemma =>
                  refine wp_region_calm (by kernel_rfl) (by kernel_rfl) ?_
                  repeat (go_big_quiet_step ((fail)))
                  refine wpQuiet_nil ?_
                  intro _ hw'
                  obtain ⟨u, rfl⟩ := hw'
                  go_wp2
                  go_meet
                  exact ⟨rfl, rfl, u.up A, ⟨_, _, _, _, _, _, F.near u⟩, _, _, _, _, _, _, G.near u, HS.out⟩
          case rest =>
            clear hway lF cF fF lD cD fD lG cG fG A F D G HS hs' hq' hk
            obtain ⟨rfl, rfl, A, ⟨x0, x1, x2, x3, x4, x5, F⟩, a2, b2, q2, s2, t2, m2, G, hs2⟩ := hcut
            have HS := Lib.hid hs2
            obtain ⟨hk, hq⟩ := hs2
            obtain ⟨lF, cF, fF⟩ := id F
            obtain ⟨lG, cG, fG⟩ := id G
            go_upto_region 24 with (fail)
            cases q2
            · as_aux_lemma =>
                clear hq
                refine wp_region_calm (by kernel_rfl) (by kernel_rfl) ?_
                repeat (go_big_quiet_step ((fail)))
                refine wpQuiet_nil ?_
                intro _ hw'
                obtain ⟨u, rfl⟩ := hw'
                have GN := G.near u
                have F5 := Box.six_set (F.near u) (.string a2) (.string b2) (.bool false) (.int .i64 s2) (.string t2) (.int .i64 m2)
                have AN := u.up A
                go_wp2
                go_roundg (n - (j + 1))
                case measure => omega
                case rel => exact ⟨j + 1, _, _, _, _, _, _, by omega, by omega, by go_num, by (repeat (first | (with_reducible exact Below.refl _ _) | (with_reducible assumption) | (with_reducible refine Near.up _ ?_) | (with_reducible refine Below.drew ?_) | (with_reducible refine below_alloc_on ?_ _) | (with_reducible refine below_set_on ?_ (by first | (simp; done) | (simp; omega) | omega) _))), F5, HS.out⟩
            · obtain ⟨h0, h1, h2⟩ : 0 ≤ m2 ∧ m2 ≤ (t2.size : Int) ∧ fz s2 a2 b2 = fst t2 m2 := by
                rcases hq with ⟨h, _⟩ | ⟨_, h⟩
                · cases h
                · exact h
              clear hq
              obtain ⟨mm, rfl⟩ : ∃ mm : Nat, m2 = mm := ⟨m2.toNat, by omega⟩
              have e1 : min (mm : Int) (t2.size : Int) = mm := by omega
              rcases hk with rfl | rfl
              · as_aux_lemma =>
                  change a2 = fst t2 mm at h2
                  subst h2
                  unfold fst at *
                  refine wp_region_calm (by kernel_rfl) (by kernel_rfl) ?_
                  repeat (go_big_quiet_step ((fail)))
                  refine wpQuiet_nil ?_
                  intro _ hw'
                  obtain ⟨u, rfl⟩ := hw'
                  have GN := G.near u
                  have F5 := Box.six_set (F.near u) (.string (t2.extract 0 (mm : Int).toNat)) (.string b2) (.bool true) (.int .i64 0) (.string t2) (.int .i64 mm)
                  have AN := u.up A
                  go_wp2
                  go_roundg (n - (j + 1))
                  case measure => omega
                  case rel => exact ⟨j + 1, _, _, _, _, _, _, by omega, by omega, by go_num, by (repeat (first | (with_reducible exact Below.refl _ _) | (with_reducible assumption) | (with_reducible refine Near.up _ ?_) | (with_reducible refine Below.drew ?_) | (with_reducible refine below_alloc_on ?_ _) | (with_reducible refine below_set_on ?_ (by first | (simp; done) | (simp; omega) | omega) _))), F5, HS.out⟩
              · as_aux_lemma =>
                  change b2 = fst t2 mm at h2
                  subst h2
                  unfold fst at *
                  refine wp_region_calm (by kernel_rfl) (by kernel_rfl) ?_
                  repeat (go_big_quiet_step ((fail)))
                  refine wpQuiet_nil ?_
                  intro _ hw'
                  obtain ⟨u, rfl⟩ := hw'
                  have GN := G.near u
                  have F5 := Box.six_set (F.near u) (.string a2) (.string (t2.extract 0 (mm : Int).toNat)) (.bool true) (.int .i64 1) (.string t2) (.int .i64 mm)
                  have AN := u.up A
                  go_wp2
                  go_roundg (n - (j + 1))
                  case measure => omega
                  case rel => exact ⟨j + 1, _, _, _, _, _, _, by omega, by omega, by go_num, by (repeat (first | (with_reducible exact Below.refl _ _) | (with_reducible assumption) | (with_reducible refine Near.up _ ?_) | (with_reducible refine Below.drew ?_) | (with_reducible refine below_alloc_on ?_ _) | (with_reducible refine below_set_on ?_ (by first | (simp; done) | (simp; omega) | omega) _))), F5, HS.out⟩
    · obtain rfl : j = n := by omega
      go_wp2_with (fail)
      refine (law15_awake _).mono ?_
      rintro e w2 ⟨rfl, hb⟩
      replace A : Below W.heap.size W w2 := by (refine below_call ?_ hb; (repeat (first | (with_reducible exact Below.refl _ _) | (with_reducible assumption) | (with_reducible refine Near.up _ ?_) | (with_reducible refine Below.drew ?_) | (with_reducible refine below_alloc_on ?_ _) | (with_reducible refine below_set_on ?_ (by first | (simp; done) | (simp; omega) | omega) _))))
      clear hb
      have z_w2 : W.heap.size ≤ w2.heap.size := A.size
      go_wp2
      all_goals go_ret
      all_goals exact ⟨rfl, A⟩

end Go.Proofs.Ytidmoacjgbjlnaa.flashOther
