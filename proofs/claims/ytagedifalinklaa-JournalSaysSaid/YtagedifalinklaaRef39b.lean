/- Contracts of the document's journal: put. -/
import Derived.Test.YtagedifalinklaaRef39
namespace Go.Proofs.Ytagedifalinklaa
open Go.RowKit
set_option linter.unusedVariables false
set_option linter.unusedSimpArgs false
set_option maxRecDepth 100000
attribute [local go_sem] cell_set_ite Near.cell Near.frozen
attribute [local go_sem ↓] Go.wp_at_zero Go.wp_at_succ

theorem ints_boxJ {w : World} {g : Nat} (xs : List Int) (h : Box w g (xs.map (Value.int .i64)).toArray) : Ints w (some ⟨g, 0, none⟩) xs.length xs := by
  refine ⟨rfl, fun _ => ⟨g, 0, rfl, h.1, fun i hi => ?_⟩⟩
  rw [Nat.zero_add]
  refine (h.2.1 i).trans ?_
  simp [hi]

set_option maxHeartbeats 8000000 in
theorem rj_put (q m r v k t d b : Int) (w : World) : Calls Try.prog 8 #[.agg #[.int .i64 q, .int .i64 m, .int .i64 r, .int .i64 v, .int .i64 k, .int .i64 t, .int .i64 d, .int .i64 b]] w fun e w' => e = .returned (.tuple #[.string (ptS q m r v k t d b), .bool (enB q m r v k t d b)]) ∧ Below w.heap.size w w' := by
  have HR := Lib.hid (fun w => rj_right q m r v k t d b w)
  have A : Below w.heap.size w w := Below.refl _ _
  cases he : enB q m r v k t d b
  · rw [pt_none he]
    rw [he] at HR
    clear he
    go_enter Try.func8, Try.ntmps8
    go_wp2_with (fail)
    refine (HR.out _).mono ?_
    rintro e w1 ⟨rfl, hb⟩
    replace A : Below w.heap.size w w1 := by (refine below_call ?_ hb; (repeat (first | (with_reducible exact Below.refl _ _) | (with_reducible assumption) | (with_reducible refine Near.up _ ?_) | (with_reducible refine Below.drew ?_) | (with_reducible refine below_alloc_on ?_ _) | (with_reducible refine below_set_on ?_ (by first | (simp; done) | (simp; omega) | omega) _))))
    replace B := Box.below (g := w.heap.size) (by (repeat (first | (with_reducible assumption) | (with_reducible exact box_new _ _ _) | ((with_reducible apply box_at); (first | (with_reducible rfl) | (simp <;> omega))) | (with_reducible apply Box.drew) | (with_reducible apply Box.drewN) | (with_reducible apply Box.near) | (with_reducible apply Box.alloc) | ((with_reducible apply box_far); (first | assumption | omega | (simp <;> omega))) | ((with_reducible apply Box.one_set); (with_reducible assumption)) | ((with_reducible apply Box.two_set); (with_reducible assumption)) | ((with_reducible apply Box.three_set); (with_reducible assumption)) | (with_reducible apply Box.set) | (simp only [List.size_toArray, List.length_cons, List.length_nil, Array.size_setIfInBounds] <;> omega)))) hb
    (try simp only [List.setIfInBounds_toArray, List.set_cons_zero, List.set_cons_succ] at B)
    (try clear cB fB)
    clear hb
    have z_w1 : w.heap.size ≤ w1.heap.size := A.size
    obtain ⟨lB_w1, cB, fB⟩ := id B
    go_wp2
    all_goals go_ret2
    all_goals exact ⟨rfl, A⟩
  · have hb := en_bd he
    rw [show ptS q m r v k t d b = sealB (pkS [q, m, r, v, k, t, d, b] wsL) by unfold ptS; rw [if_pos he]]
    have hsz := pkS_size [q, m, r, v, k, t, d, b] wsL
    have HP := fun w B C c e (h : Ints w B 8 [q, m, r, v, k, t, d, b]) (g : Ints w C 8 wsL) => ref7_pack B C 8 c 8 e [q, m, r, v, k, t, d, b] wsL w h g (by omega) (by omega) (by
      intro x hx
      simp only [List.mem_cons, List.not_mem_nil, or_false] at hx
      omega)
    rw [en_pk he] at HP
    have HP := Lib.hid (fun w B C c e h g => (HP w B C c e h g).mono fun _ _ h => (⟨h.1, h.2⟩ : _ ∧ _))
    have HS := Lib.hid (fun w => ref6_seal (pkS [q, m, r, v, k, t, d, b] wsL) w (by omega))
    rw [he] at HR
    clear he hb hsz
    generalize pkS [q, m, r, v, k, t, d, b] wsL = ps at *
    generalize sealB ps = ss at *
    go_enter Try.func8, Try.ntmps8
    go_wp2_with (fail)
    refine (HR.out _).mono ?_
    rintro e w1 ⟨rfl, hb⟩
    replace A : Below w.heap.size w w1 := by (refine below_call ?_ hb; (repeat (first | (with_reducible exact Below.refl _ _) | (with_reducible assumption) | (with_reducible refine Near.up _ ?_) | (with_reducible refine Below.drew ?_) | (with_reducible refine below_alloc_on ?_ _) | (with_reducible refine below_set_on ?_ (by first | (simp; done) | (simp; omega) | omega) _))))
    replace B := Box.below (g := w.heap.size) (by (repeat (first | (with_reducible assumption) | (with_reducible exact box_new _ _ _) | ((with_reducible apply box_at); (first | (with_reducible rfl) | (simp <;> omega))) | (with_reducible apply Box.drew) | (with_reducible apply Box.drewN) | (with_reducible apply Box.near) | (with_reducible apply Box.alloc) | ((with_reducible apply box_far); (first | assumption | omega | (simp <;> omega))) | ((with_reducible apply Box.one_set); (with_reducible assumption)) | ((with_reducible apply Box.two_set); (with_reducible assumption)) | ((with_reducible apply Box.three_set); (with_reducible assumption)) | (with_reducible apply Box.set) | (simp only [List.size_toArray, List.length_cons, List.length_nil, Array.size_setIfInBounds] <;> omega)))) hb
    (try simp only [List.setIfInBounds_toArray, List.set_cons_zero, List.set_cons_succ] at B)
    (try clear cB fB)
    clear hb
    have z_w1 : w.heap.size ≤ w1.heap.size := A.size
    obtain ⟨lB_w1, cB, fB⟩ := id B
    go_upto_region 3 with (fail)
    refine at_world (fun W => Below w.heap.size w W ∧ Box W w.heap.size #[.int .i64 q, .int .i64 m, .int .i64 r, .int .i64 v, .int .i64 k, .int .i64 t, .int .i64 d, .int .i64 b]) ⟨A, B⟩ ?_
    clear A B cB fB lB_w1 z_w1 HR
    rintro w1 ⟨A1, G1⟩
    obtain ⟨g, hg⟩ : ∃ g, w.heap.size = g := ⟨_, rfl⟩
    rw [hg] at G1
    simp only [hg]
    clear hg
    have HB_g : ∀ w', Below (World.drew w1).heap.size (World.drew w1) w' → Box w' g #[.int .i64 q, .int .i64 m, .int .i64 r, .int .i64 v, .int .i64 k, .int .i64 t, .int .i64 d, .int .i64 b] := fun w' h => (show Box (World.drew w1) g #[.int .i64 q, .int .i64 m, .int .i64 r, .int .i64 v, .int .i64 k, .int .i64 t, .int .i64 d, .int .i64 b] from G1).below h
    obtain ⟨cs, hcs⟩ : ∃ cs : Nat → Value, (fun i => match i with
      | 0 => .pointer (some ⟨g, 0, none⟩)
      | 1 => .int .i64 q
      | 2 => .pointer (some ⟨g, 1, none⟩)
      | 3 => .int .i64 m
      | 4 => .pointer (some ⟨g, 2, none⟩)
      | 5 => .pointer (some ⟨g, 2, none⟩)
      | 6 => .int .i64 r
      | 7 => .pointer (some ⟨g, 2, none⟩)
      | 8 => .pointer (some ⟨g, 3, none⟩)
      | 9 => .int .i64 v
      | 10 => .pointer (some ⟨g, 2, none⟩)
      | 11 => .pointer (some ⟨g, 4, none⟩)
      | 12 => .int .i64 k
      | 13 => .pointer (some ⟨g, 5, none⟩)
      | 14 => .pointer (some ⟨g, 5, none⟩)
      | 15 => .int .i64 t
      | 16 => .pointer (some ⟨g, 5, none⟩)
      | 17 => .pointer (some ⟨g, 6, none⟩)
      | 18 => .int .i64 d
      | 19 => .pointer (some ⟨g, 5, none⟩)
      | 20 => .pointer (some ⟨g, 7, none⟩)
      | 21 => .int .i64 b
      | 24 => .tuple #[.string ps, .bool true]
      | 25 => .tuple #[.string ps, .bool true]
      | 26 => .string ps
      | 27 => .bool true
      | 28 => .string ps
      | _ => undef) = cs := ⟨_, rfl⟩
    have e0 : cs 0 = .pointer (some ⟨g, 0, none⟩) := by rw [← hcs]; rfl
    have e1 : cs 1 = .int .i64 q := by rw [← hcs]; rfl
    have e2 : cs 2 = .pointer (some ⟨g, 1, none⟩) := by rw [← hcs]; rfl
    have e3 : cs 3 = .int .i64 m := by rw [← hcs]; rfl
    have e4 : cs 4 = .pointer (some ⟨g, 2, none⟩) := by rw [← hcs]; rfl
    have e5 : cs 5 = .pointer (some ⟨g, 2, none⟩) := by rw [← hcs]; rfl
    have e6 : cs 6 = .int .i64 r := by rw [← hcs]; rfl
    have e7 : cs 7 = .pointer (some ⟨g, 2, none⟩) := by rw [← hcs]; rfl
    have e8 : cs 8 = .pointer (some ⟨g, 3, none⟩) := by rw [← hcs]; rfl
    have e9 : cs 9 = .int .i64 v := by rw [← hcs]; rfl
    have e10 : cs 10 = .pointer (some ⟨g, 2, none⟩) := by rw [← hcs]; rfl
    have e11 : cs 11 = .pointer (some ⟨g, 4, none⟩) := by rw [← hcs]; rfl
    have e12 : cs 12 = .int .i64 k := by rw [← hcs]; rfl
    have e13 : cs 13 = .pointer (some ⟨g, 5, none⟩) := by rw [← hcs]; rfl
    have e14 : cs 14 = .pointer (some ⟨g, 5, none⟩) := by rw [← hcs]; rfl
    have e15 : cs 15 = .int .i64 t := by rw [← hcs]; rfl
    have e16 : cs 16 = .pointer (some ⟨g, 5, none⟩) := by rw [← hcs]; rfl
    have e17 : cs 17 = .pointer (some ⟨g, 6, none⟩) := by rw [← hcs]; rfl
    have e18 : cs 18 = .int .i64 d := by rw [← hcs]; rfl
    have e19 : cs 19 = .pointer (some ⟨g, 5, none⟩) := by rw [← hcs]; rfl
    have e20 : cs 20 = .pointer (some ⟨g, 7, none⟩) := by rw [← hcs]; rfl
    have e21 : cs 21 = .int .i64 b := by rw [← hcs]; rfl
    have e24 : cs 24 = .tuple #[.string ps, .bool true] := by rw [← hcs]; rfl
    have e25 : cs 25 = .tuple #[.string ps, .bool true] := by rw [← hcs]; rfl
    have e26 : cs 26 = .string ps := by rw [← hcs]; rfl
    have e27 : cs 27 = .bool true := by rw [← hcs]; rfl
    have e28 : cs 28 = .string ps := by rw [← hcs]; rfl
    clear hcs
    refine wp_region_loose 29 41 (by as_aux_lemma => kernel_rfl) (by as_aux_lemma => kernel_rfl) rfl (fun w w' => Below w.heap.size w w') (fun w => Below.refl _ _) (fun a b c h g => below_call h g)
      (looseD (fun i => if i = 22 then some (fun vv ww => ∃ q_, vv = .slice (some ⟨q_, 0, none⟩) 8 8 ∧ Box ww q_ #[.int .i64 q, .int .i64 m, .int .i64 r, .int .i64 v, .int .i64 k, .int .i64 t, .int .i64 d, .int .i64 b]) else if i = 23 then some (fun vv ww => ∃ B c, vv = .slice B 8 c ∧ 8 ≤ c ∧ Ints ww B 8 wsL) else none) cs)
      (fun _ _ _ => True) (looseD_stable ?_) (fun _ _ _ _ _ _ _ _ => trivial) trivial ?_ ?_
    · intro i p hp v u u' h hE
      split at hp
      · cases hp; obtain ⟨q, h1, h3⟩ := h; exact ⟨q, h1, h3.below hE⟩
      · skip
        split at hp
        · cases hp; obtain ⟨B, c, h1, h2, h3⟩ := h; exact ⟨B, c, h1, h2, h3.below hE⟩
        · skip
          cases hp
    · simp only [List.take_succ_cons, List.take_zero]
      refine looseAll_cons (k := 1) rfl (fun a u L hE hev hkn _ _ => ?_) ?_
      · have kc : ∀ c, a.eval (.const c) = c := fun _ => rfl
        have kf : ∀ f, a.eval (.func f) = .func (.func f) #[] #[] := fun _ => rfl
        have t1 : a.eval (.tmp 1) = .pointer (some ⟨g, 0, none⟩) := hev 1 (by kernel_rfl)
        exact loose_val rfl (v := .pointer (some ⟨g, 0, none⟩)) (by generalize a.eval = ev at *; simp [go_sem, kc, kf, t1]) ⟨Below.refl _ _, e0.symm, trivial⟩
      refine looseAll_cons (k := 2) rfl (fun a u L hE hev hkn _ _ => ?_) ?_
      · have kc : ∀ c, a.eval (.const c) = c := fun _ => rfl
        have kf : ∀ f, a.eval (.func f) = .func (.func f) #[] #[] := fun _ => rfl
        have C_g := (HB_g u hE).2.1
        have t10 : a.eval (.tmp 10) = .pointer (some ⟨g, 0, none⟩) := (hkn 0 (by kernel_rfl) : a.eval (.tmp 10) = cs 0).trans e0
        exact loose_val rfl (v := .int .i64 q) (by generalize a.eval = ev at *; simp [go_sem, kc, kf, t10, C_g]) ⟨Below.refl _ _, e1.symm, trivial⟩
      refine looseAll_cons (k := 3) rfl (fun a u L hE hev hkn _ _ => ?_) ?_
      · have kc : ∀ c, a.eval (.const c) = c := fun _ => rfl
        have kf : ∀ f, a.eval (.func f) = .func (.func f) #[] #[] := fun _ => rfl
        have t1 : a.eval (.tmp 1) = .pointer (some ⟨g, 0, none⟩) := hev 1 (by kernel_rfl)
        exact loose_val rfl (v := .pointer (some ⟨g, 1, none⟩)) (by generalize a.eval = ev at *; simp [go_sem, kc, kf, t1]) ⟨Below.refl _ _, e2.symm, trivial⟩
      refine looseAll_cons (k := 4) rfl (fun a u L hE hev hkn _ _ => ?_) ?_
      · have kc : ∀ c, a.eval (.const c) = c := fun _ => rfl
        have kf : ∀ f, a.eval (.func f) = .func (.func f) #[] #[] := fun _ => rfl
        have C_g := (HB_g u hE).2.1
        have t12 : a.eval (.tmp 12) = .pointer (some ⟨g, 1, none⟩) := (hkn 2 (by kernel_rfl) : a.eval (.tmp 12) = cs 2).trans e2
        exact loose_val rfl (v := .int .i64 m) (by generalize a.eval = ev at *; simp [go_sem, kc, kf, t12, C_g]) ⟨Below.refl _ _, e3.symm, trivial⟩
      refine looseAll_cons (k := 5) rfl (fun a u L hE hev hkn _ _ => ?_) ?_
      · have kc : ∀ c, a.eval (.const c) = c := fun _ => rfl
        have kf : ∀ f, a.eval (.func f) = .func (.func f) #[] #[] := fun _ => rfl
        have t1 : a.eval (.tmp 1) = .pointer (some ⟨g, 0, none⟩) := hev 1 (by kernel_rfl)
        exact loose_val rfl (v := .pointer (some ⟨g, 2, none⟩)) (by generalize a.eval = ev at *; simp [go_sem, kc, kf, t1]) ⟨Below.refl _ _, e4.symm, trivial⟩
      refine looseAll_cons (k := 6) rfl (fun a u L hE hev hkn _ _ => ?_) ?_
      · have kc : ∀ c, a.eval (.const c) = c := fun _ => rfl
        have kf : ∀ f, a.eval (.func f) = .func (.func f) #[] #[] := fun _ => rfl
        have t14 : a.eval (.tmp 14) = .pointer (some ⟨g, 2, none⟩) := (hkn 4 (by kernel_rfl) : a.eval (.tmp 14) = cs 4).trans e4
        exact loose_val rfl (v := .pointer (some ⟨g, 2, none⟩)) (by generalize a.eval = ev at *; simp [go_sem, kc, kf, t14]) ⟨Below.refl _ _, e5.symm, trivial⟩
      refine looseAll_cons (k := 7) rfl (fun a u L hE hev hkn _ _ => ?_) ?_
      · have kc : ∀ c, a.eval (.const c) = c := fun _ => rfl
        have kf : ∀ f, a.eval (.func f) = .func (.func f) #[] #[] := fun _ => rfl
        have C_g := (HB_g u hE).2.1
        have t15 : a.eval (.tmp 15) = .pointer (some ⟨g, 2, none⟩) := (hkn 5 (by kernel_rfl) : a.eval (.tmp 15) = cs 5).trans e5
        exact loose_val rfl (v := .int .i64 r) (by generalize a.eval = ev at *; simp [go_sem, kc, kf, t15, C_g]) ⟨Below.refl _ _, e6.symm, trivial⟩
      refine looseAll_cons (k := 8) rfl (fun a u L hE hev hkn _ _ => ?_) ?_
      · have kc : ∀ c, a.eval (.const c) = c := fun _ => rfl
        have kf : ∀ f, a.eval (.func f) = .func (.func f) #[] #[] := fun _ => rfl
        have t1 : a.eval (.tmp 1) = .pointer (some ⟨g, 0, none⟩) := hev 1 (by kernel_rfl)
        exact loose_val rfl (v := .pointer (some ⟨g, 2, none⟩)) (by generalize a.eval = ev at *; simp [go_sem, kc, kf, t1]) ⟨Below.refl _ _, e7.symm, trivial⟩
      refine looseAll_cons (k := 9) rfl (fun a u L hE hev hkn _ _ => ?_) ?_
      · have kc : ∀ c, a.eval (.const c) = c := fun _ => rfl
        have kf : ∀ f, a.eval (.func f) = .func (.func f) #[] #[] := fun _ => rfl
        have t17 : a.eval (.tmp 17) = .pointer (some ⟨g, 2, none⟩) := (hkn 7 (by kernel_rfl) : a.eval (.tmp 17) = cs 7).trans e7
        exact loose_val rfl (v := .pointer (some ⟨g, 3, none⟩)) (by generalize a.eval = ev at *; simp [go_sem, kc, kf, t17]) ⟨Below.refl _ _, e8.symm, trivial⟩
      refine looseAll_cons (k := 10) rfl (fun a u L hE hev hkn _ _ => ?_) ?_
      · have kc : ∀ c, a.eval (.const c) = c := fun _ => rfl
        have kf : ∀ f, a.eval (.func f) = .func (.func f) #[] #[] := fun _ => rfl
        have C_g := (HB_g u hE).2.1
        have t18 : a.eval (.tmp 18) = .pointer (some ⟨g, 3, none⟩) := (hkn 8 (by kernel_rfl) : a.eval (.tmp 18) = cs 8).trans e8
        exact loose_val rfl (v := .int .i64 v) (by generalize a.eval = ev at *; simp [go_sem, kc, kf, t18, C_g]) ⟨Below.refl _ _, e9.symm, trivial⟩
      refine looseAll_cons (k := 11) rfl (fun a u L hE hev hkn _ _ => ?_) ?_
      · have kc : ∀ c, a.eval (.const c) = c := fun _ => rfl
        have kf : ∀ f, a.eval (.func f) = .func (.func f) #[] #[] := fun _ => rfl
        have t1 : a.eval (.tmp 1) = .pointer (some ⟨g, 0, none⟩) := hev 1 (by kernel_rfl)
        exact loose_val rfl (v := .pointer (some ⟨g, 2, none⟩)) (by generalize a.eval = ev at *; simp [go_sem, kc, kf, t1]) ⟨Below.refl _ _, e10.symm, trivial⟩
      refine looseAll_cons (k := 12) rfl (fun a u L hE hev hkn _ _ => ?_) ?_
      · have kc : ∀ c, a.eval (.const c) = c := fun _ => rfl
        have kf : ∀ f, a.eval (.func f) = .func (.func f) #[] #[] := fun _ => rfl
        have t20 : a.eval (.tmp 20) = .pointer (some ⟨g, 2, none⟩) := (hkn 10 (by kernel_rfl) : a.eval (.tmp 20) = cs 10).trans e10
        exact loose_val rfl (v := .pointer (some ⟨g, 4, none⟩)) (by generalize a.eval = ev at *; simp [go_sem, kc, kf, t20]) ⟨Below.refl _ _, e11.symm, trivial⟩
      refine looseAll_cons (k := 13) rfl (fun a u L hE hev hkn _ _ => ?_) ?_
      · have kc : ∀ c, a.eval (.const c) = c := fun _ => rfl
        have kf : ∀ f, a.eval (.func f) = .func (.func f) #[] #[] := fun _ => rfl
        have C_g := (HB_g u hE).2.1
        have t21 : a.eval (.tmp 21) = .pointer (some ⟨g, 4, none⟩) := (hkn 11 (by kernel_rfl) : a.eval (.tmp 21) = cs 11).trans e11
        exact loose_val rfl (v := .int .i64 k) (by generalize a.eval = ev at *; simp [go_sem, kc, kf, t21, C_g]) ⟨Below.refl _ _, e12.symm, trivial⟩
      refine looseAll_cons (k := 14) rfl (fun a u L hE hev hkn _ _ => ?_) ?_
      · have kc : ∀ c, a.eval (.const c) = c := fun _ => rfl
        have kf : ∀ f, a.eval (.func f) = .func (.func f) #[] #[] := fun _ => rfl
        have t1 : a.eval (.tmp 1) = .pointer (some ⟨g, 0, none⟩) := hev 1 (by kernel_rfl)
        exact loose_val rfl (v := .pointer (some ⟨g, 5, none⟩)) (by generalize a.eval = ev at *; simp [go_sem, kc, kf, t1]) ⟨Below.refl _ _, e13.symm, trivial⟩
      refine looseAll_cons (k := 15) rfl (fun a u L hE hev hkn _ _ => ?_) ?_
      · have kc : ∀ c, a.eval (.const c) = c := fun _ => rfl
        have kf : ∀ f, a.eval (.func f) = .func (.func f) #[] #[] := fun _ => rfl
        have t23 : a.eval (.tmp 23) = .pointer (some ⟨g, 5, none⟩) := (hkn 13 (by kernel_rfl) : a.eval (.tmp 23) = cs 13).trans e13
        exact loose_val rfl (v := .pointer (some ⟨g, 5, none⟩)) (by generalize a.eval = ev at *; simp [go_sem, kc, kf, t23]) ⟨Below.refl _ _, e14.symm, trivial⟩
      refine looseAll_cons (k := 16) rfl (fun a u L hE hev hkn _ _ => ?_) ?_
      · have kc : ∀ c, a.eval (.const c) = c := fun _ => rfl
        have kf : ∀ f, a.eval (.func f) = .func (.func f) #[] #[] := fun _ => rfl
        have C_g := (HB_g u hE).2.1
        have t24 : a.eval (.tmp 24) = .pointer (some ⟨g, 5, none⟩) := (hkn 14 (by kernel_rfl) : a.eval (.tmp 24) = cs 14).trans e14
        exact loose_val rfl (v := .int .i64 t) (by generalize a.eval = ev at *; simp [go_sem, kc, kf, t24, C_g]) ⟨Below.refl _ _, e15.symm, trivial⟩
      refine looseAll_cons (k := 17) rfl (fun a u L hE hev hkn _ _ => ?_) ?_
      · have kc : ∀ c, a.eval (.const c) = c := fun _ => rfl
        have kf : ∀ f, a.eval (.func f) = .func (.func f) #[] #[] := fun _ => rfl
        have t1 : a.eval (.tmp 1) = .pointer (some ⟨g, 0, none⟩) := hev 1 (by kernel_rfl)
        exact loose_val rfl (v := .pointer (some ⟨g, 5, none⟩)) (by generalize a.eval = ev at *; simp [go_sem, kc, kf, t1]) ⟨Below.refl _ _, e16.symm, trivial⟩
      refine looseAll_cons (k := 18) rfl (fun a u L hE hev hkn _ _ => ?_) ?_
      · have kc : ∀ c, a.eval (.const c) = c := fun _ => rfl
        have kf : ∀ f, a.eval (.func f) = .func (.func f) #[] #[] := fun _ => rfl
        have t26 : a.eval (.tmp 26) = .pointer (some ⟨g, 5, none⟩) := (hkn 16 (by kernel_rfl) : a.eval (.tmp 26) = cs 16).trans e16
        exact loose_val rfl (v := .pointer (some ⟨g, 6, none⟩)) (by generalize a.eval = ev at *; simp [go_sem, kc, kf, t26]) ⟨Below.refl _ _, e17.symm, trivial⟩
      refine looseAll_cons (k := 19) rfl (fun a u L hE hev hkn _ _ => ?_) ?_
      · have kc : ∀ c, a.eval (.const c) = c := fun _ => rfl
        have kf : ∀ f, a.eval (.func f) = .func (.func f) #[] #[] := fun _ => rfl
        have C_g := (HB_g u hE).2.1
        have t27 : a.eval (.tmp 27) = .pointer (some ⟨g, 6, none⟩) := (hkn 17 (by kernel_rfl) : a.eval (.tmp 27) = cs 17).trans e17
        exact loose_val rfl (v := .int .i64 d) (by generalize a.eval = ev at *; simp [go_sem, kc, kf, t27, C_g]) ⟨Below.refl _ _, e18.symm, trivial⟩
      refine looseAll_cons (k := 20) rfl (fun a u L hE hev hkn _ _ => ?_) ?_
      · have kc : ∀ c, a.eval (.const c) = c := fun _ => rfl
        have kf : ∀ f, a.eval (.func f) = .func (.func f) #[] #[] := fun _ => rfl
        have t1 : a.eval (.tmp 1) = .pointer (some ⟨g, 0, none⟩) := hev 1 (by kernel_rfl)
        exact loose_val rfl (v := .pointer (some ⟨g, 5, none⟩)) (by generalize a.eval = ev at *; simp [go_sem, kc, kf, t1]) ⟨Below.refl _ _, e19.symm, trivial⟩
      refine looseAll_cons (k := 21) rfl (fun a u L hE hev hkn _ _ => ?_) ?_
      · have kc : ∀ c, a.eval (.const c) = c := fun _ => rfl
        have kf : ∀ f, a.eval (.func f) = .func (.func f) #[] #[] := fun _ => rfl
        have t29 : a.eval (.tmp 29) = .pointer (some ⟨g, 5, none⟩) := (hkn 19 (by kernel_rfl) : a.eval (.tmp 29) = cs 19).trans e19
        exact loose_val rfl (v := .pointer (some ⟨g, 7, none⟩)) (by generalize a.eval = ev at *; simp [go_sem, kc, kf, t29]) ⟨Below.refl _ _, e20.symm, trivial⟩
      refine looseAll_cons (k := 22) rfl (fun a u L hE hev hkn _ _ => ?_) ?_
      · have kc : ∀ c, a.eval (.const c) = c := fun _ => rfl
        have kf : ∀ f, a.eval (.func f) = .func (.func f) #[] #[] := fun _ => rfl
        have C_g := (HB_g u hE).2.1
        have t30 : a.eval (.tmp 30) = .pointer (some ⟨g, 7, none⟩) := (hkn 20 (by kernel_rfl) : a.eval (.tmp 30) = cs 20).trans e20
        exact loose_val rfl (v := .int .i64 b) (by generalize a.eval = ev at *; simp [go_sem, kc, kf, t30, C_g]) ⟨Below.refl _ _, e21.symm, trivial⟩
      refine looseAll_cons (k := 23) rfl (fun a u L hE hev hkn _ _ => ?_) ?_
      · have kc : ∀ c, a.eval (.const c) = c := fun _ => rfl
        have kf : ∀ f, a.eval (.func f) = .func (.func f) #[] #[] := fun _ => rfl
        have t11 : a.eval (.tmp 11) = .int .i64 q := (hkn 1 (by kernel_rfl) : a.eval (.tmp 11) = cs 1).trans e1
        have t13 : a.eval (.tmp 13) = .int .i64 m := (hkn 3 (by kernel_rfl) : a.eval (.tmp 13) = cs 3).trans e3
        have t16 : a.eval (.tmp 16) = .int .i64 r := (hkn 6 (by kernel_rfl) : a.eval (.tmp 16) = cs 6).trans e6
        have t19 : a.eval (.tmp 19) = .int .i64 v := (hkn 9 (by kernel_rfl) : a.eval (.tmp 19) = cs 9).trans e9
        have t22 : a.eval (.tmp 22) = .int .i64 k := (hkn 12 (by kernel_rfl) : a.eval (.tmp 22) = cs 12).trans e12
        have t25 : a.eval (.tmp 25) = .int .i64 t := (hkn 15 (by kernel_rfl) : a.eval (.tmp 25) = cs 15).trans e15
        have t28 : a.eval (.tmp 28) = .int .i64 d := (hkn 18 (by kernel_rfl) : a.eval (.tmp 28) = cs 18).trans e18
        have t31 : a.eval (.tmp 31) = .int .i64 b := (hkn 21 (by kernel_rfl) : a.eval (.tmp 31) = cs 21).trans e21
        exact loose_val rfl (v := .slice (some ⟨u.heap.size, 0, none⟩) 8 8) (w' := u.alloc (.cells #[.int .i64 q, .int .i64 m, .int .i64 r, .int .i64 v, .int .i64 k, .int .i64 t, .int .i64 d, .int .i64 b] 3)) (by generalize a.eval = ev at *; simp [go_sem, kc, kf, t11, t13, t16, t19, t22, t25, t28, t31]) ⟨below_alloc_on (Below.refl _ _) _, ⟨u.heap.size, rfl, box_new _ _ _⟩, trivial⟩
      refine looseAll_cons (k := 24) rfl (fun a u L hE hev hkn _ _ => ?_) ?_
      · have kc : ∀ c, a.eval (.const c) = c := fun _ => rfl
        have kf : ∀ f, a.eval (.func f) = .func (.func f) #[] #[] := fun _ => rfl
        exact loose_call rfl (by generalize a.eval = ev at *; simp [go_sem, kc, kf]) ((rj_widths u).mono fun e u' h => by obtain ⟨B, c, he, hc, hi, hb⟩ := h; exact ⟨_, he, hb, ⟨B, c, rfl, hc, hi⟩, trivial⟩)
      refine looseAll_cons (k := 25) rfl (fun a u L hE hev hkn _ _ => ?_) ?_
      · have kc : ∀ c, a.eval (.const c) = c := fun _ => rfl
        have kf : ∀ f, a.eval (.func f) = .func (.func f) #[] #[] := fun _ => rfl
        obtain ⟨s0, t32, Bs0⟩ : ∃ q_, (a.eval (.tmp 32)) = .slice (some ⟨q_, 0, none⟩) 8 8 ∧ Box u q_ #[.int .i64 q, .int .i64 m, .int .i64 r, .int .i64 v, .int .i64 k, .int .i64 t, .int .i64 d, .int .i64 b] := hkn 22 (by kernel_rfl)
        obtain ⟨B2, c2, t33, hc2, hi2⟩ : ∃ B c, (a.eval (.tmp 33)) = .slice B 8 c ∧ 8 ≤ c ∧ Ints u B 8 wsL := hkn 23 (by kernel_rfl)
        exact loose_call rfl (by generalize a.eval = ev at *; simp [go_sem, kc, kf, t32, t33]) ((HP.out u (some ⟨s0, 0, none⟩) B2 8 c2 (ints_boxJ [q, m, r, v, k, t, d, b] Bs0) hi2).mono fun e w' h => ⟨.tuple #[.string ps, .bool true], h.1, h.2, e24.symm, trivial⟩)
      refine looseAll_cons (k := 26) rfl (fun a u L hE hev hkn _ _ => ?_) ?_
      · have kc : ∀ c, a.eval (.const c) = c := fun _ => rfl
        have kf : ∀ f, a.eval (.func f) = .func (.func f) #[] #[] := fun _ => rfl
        have t34 : a.eval (.tmp 34) = .tuple #[.string ps, .bool true] := (hkn 24 (by kernel_rfl) : a.eval (.tmp 34) = cs 24).trans e24
        exact loose_val rfl (v := .tuple #[.string ps, .bool true]) (by generalize a.eval = ev at *; simp [go_sem, kc, kf, t34]) ⟨Below.refl _ _, e25.symm, trivial⟩
      refine looseAll_cons (k := 27) rfl (fun a u L hE hev hkn _ _ => ?_) ?_
      · have kc : ∀ c, a.eval (.const c) = c := fun _ => rfl
        have kf : ∀ f, a.eval (.func f) = .func (.func f) #[] #[] := fun _ => rfl
        have t9 : a.eval (.tmp 9) = .tuple #[.string ps, .bool true] := (hkn 25 (by kernel_rfl) : a.eval (.tmp 9) = cs 25).trans e25
        exact loose_val rfl (v := .string ps) (by generalize a.eval = ev at *; simp [go_sem, kc, kf, t9]) ⟨Below.refl _ _, e26.symm, trivial⟩
      refine looseAll_cons (k := 28) rfl (fun a u L hE hev hkn _ _ => ?_) ?_
      · have kc : ∀ c, a.eval (.const c) = c := fun _ => rfl
        have kf : ∀ f, a.eval (.func f) = .func (.func f) #[] #[] := fun _ => rfl
        have t9 : a.eval (.tmp 9) = .tuple #[.string ps, .bool true] := (hkn 25 (by kernel_rfl) : a.eval (.tmp 9) = cs 25).trans e25
        exact loose_val rfl (v := .bool true) (by generalize a.eval = ev at *; simp [go_sem, kc, kf, t9]) ⟨Below.refl _ _, e27.symm, trivial⟩
      refine looseAll_cons (k := 29) rfl (fun a u L hE hev hkn _ _ => ?_) ?_
      · have kc : ∀ c, a.eval (.const c) = c := fun _ => rfl
        have kf : ∀ f, a.eval (.func f) = .func (.func f) #[] #[] := fun _ => rfl
        have t35 : a.eval (.tmp 35) = .string ps := (hkn 26 (by kernel_rfl) : a.eval (.tmp 35) = cs 26).trans e26
        exact loose_val rfl (v := .string ps) (by generalize a.eval = ev at *; simp [go_sem, kc, kf, t35]) ⟨Below.refl _ _, e28.symm, trivial⟩
      exact looseAll_nil
    · intro a w3 hE hsz hdf hO hDD _
      obtain ⟨s0, f32, Bs0⟩ : ∃ q_, (a.tmps.getD 32 undef) = .slice (some ⟨q_, 0, none⟩) 8 8 ∧ Box w3 q_ #[.int .i64 q, .int .i64 m, .int .i64 r, .int .i64 v, .int .i64 k, .int .i64 t, .int .i64 d, .int .i64 b] := hDD 22 (by omega)
      obtain ⟨B2, c2, f33, hc2, hi2⟩ : ∃ B c, (a.tmps.getD 33 undef) = .slice B 8 c ∧ 8 ≤ c ∧ Ints w3 B 8 wsL := hDD 23 (by omega)
      obtain ⟨x5, f5⟩ : ∃ x, a.tmps.getD 5 undef = x := ⟨_, rfl⟩
      have hOO : ∀ s_, isDst _ s_ = false → a.tmps.getD s_ undef = (List.toArray (.agg #[.int .i64 q, .int .i64 m, .int .i64 r, .int .i64 v, .int .i64 k, .int .i64 t, .int .i64 d, .int .i64 b] :: .pointer (some ⟨g, 0, none⟩) :: .string ⟨#[]⟩ :: .bool false :: undef :: undef :: .agg #[.int .i64 q, .int .i64 m, .int .i64 r, .int .i64 v, .int .i64 k, .int .i64 t, .int .i64 d, .int .i64 b] :: .bool true :: .bool false :: undef :: undef :: undef :: undef :: undef :: undef :: undef :: undef :: undef :: undef :: undef :: undef :: undef :: undef :: undef :: undef :: undef :: undef :: undef :: undef :: undef :: undef :: undef :: undef :: undef :: undef :: undef :: undef :: undef :: undef :: undef :: undef :: []) : Array Value).getD s_ undef := fun s_ h_ => by rw [Array.getD_eq_getD_getElem?, Array.getD_eq_getD_getElem?, hO s_ h_]
      obtain rfl := act_lit (ys := (List.toArray (.agg #[.int .i64 q, .int .i64 m, .int .i64 r, .int .i64 v, .int .i64 k, .int .i64 t, .int .i64 d, .int .i64 b] :: .pointer (some ⟨g, 0, none⟩) :: .string ⟨#[]⟩ :: .bool false :: .string ps :: x5 :: .agg #[.int .i64 q, .int .i64 m, .int .i64 r, .int .i64 v, .int .i64 k, .int .i64 t, .int .i64 d, .int .i64 b] :: .bool true :: .bool false :: .tuple #[.string ps, .bool true] :: .pointer (some ⟨g, 0, none⟩) :: .int .i64 q :: .pointer (some ⟨g, 1, none⟩) :: .int .i64 m :: .pointer (some ⟨g, 2, none⟩) :: .pointer (some ⟨g, 2, none⟩) :: .int .i64 r :: .pointer (some ⟨g, 2, none⟩) :: .pointer (some ⟨g, 3, none⟩) :: .int .i64 v :: .pointer (some ⟨g, 2, none⟩) :: .pointer (some ⟨g, 4, none⟩) :: .int .i64 k :: .pointer (some ⟨g, 5, none⟩) :: .pointer (some ⟨g, 5, none⟩) :: .int .i64 t :: .pointer (some ⟨g, 5, none⟩) :: .pointer (some ⟨g, 6, none⟩) :: .int .i64 d :: .pointer (some ⟨g, 5, none⟩) :: .pointer (some ⟨g, 7, none⟩) :: .int .i64 b :: .slice (some ⟨s0, 0, none⟩) 8 8 :: .slice B2 8 c2 :: .tuple #[.string ps, .bool true] :: .string ps :: .bool true :: undef :: undef :: undef :: undef :: []))) hdf hsz (fun s_ hs_ => match s_, hs_ with
          | 0, _ => hOO 0 (by kernel_rfl)
          | 1, _ => hOO 1 (by kernel_rfl)
          | 2, _ => hOO 2 (by kernel_rfl)
          | 3, _ => hOO 3 (by kernel_rfl)
          | 4, _ => (hDD 28 (by omega)).trans e28
          | 5, _ => f5
          | 6, _ => hOO 6 (by kernel_rfl)
          | 7, _ => hOO 7 (by kernel_rfl)
          | 8, _ => hOO 8 (by kernel_rfl)
          | 9, _ => (hDD 25 (by omega)).trans e25
          | 10, _ => (hDD 0 (by omega)).trans e0
          | 11, _ => (hDD 1 (by omega)).trans e1
          | 12, _ => (hDD 2 (by omega)).trans e2
          | 13, _ => (hDD 3 (by omega)).trans e3
          | 14, _ => (hDD 4 (by omega)).trans e4
          | 15, _ => (hDD 5 (by omega)).trans e5
          | 16, _ => (hDD 6 (by omega)).trans e6
          | 17, _ => (hDD 7 (by omega)).trans e7
          | 18, _ => (hDD 8 (by omega)).trans e8
          | 19, _ => (hDD 9 (by omega)).trans e9
          | 20, _ => (hDD 10 (by omega)).trans e10
          | 21, _ => (hDD 11 (by omega)).trans e11
          | 22, _ => (hDD 12 (by omega)).trans e12
          | 23, _ => (hDD 13 (by omega)).trans e13
          | 24, _ => (hDD 14 (by omega)).trans e14
          | 25, _ => (hDD 15 (by omega)).trans e15
          | 26, _ => (hDD 16 (by omega)).trans e16
          | 27, _ => (hDD 17 (by omega)).trans e17
          | 28, _ => (hDD 18 (by omega)).trans e18
          | 29, _ => (hDD 19 (by omega)).trans e19
          | 30, _ => (hDD 20 (by omega)).trans e20
          | 31, _ => (hDD 21 (by omega)).trans e21
          | 32, _ => f32
          | 33, _ => f33
          | 34, _ => (hDD 24 (by omega)).trans e24
          | 35, _ => (hDD 26 (by omega)).trans e26
          | 36, _ => (hDD 27 (by omega)).trans e27
          | 37, _ => hOO 37 (by kernel_rfl)
          | 38, _ => hOO 38 (by kernel_rfl)
          | 39, _ => hOO 39 (by kernel_rfl)
          | 40, _ => hOO 40 (by kernel_rfl)
          | (k_ + 41), h_ => absurd h_ (by simp))
      have Y_g := HB_g _ hE
      clear hDD hOO hO hsz hdf e0 e1 e2 e3 e4 e5 e6 e7 e8 e9 e10 e11 e12 e13 e14 e15 e16 e17 e18 e19 e20 e21 e24 e25 e26 e27 e28 f32 f33 f5 HB_g
      have A3 := Lib.hid (below_call (Below.drew A1) hE)
      clear hE Bs0 hi2 Y_g A1
      go_wp2_with (fail)
      refine (HS.out _).mono ?_
      rintro e w4 ⟨rfl, hb⟩
      have A4 := Lib.hid (below_call A3.out hb)
      clear hb A3
      go_wp2
      all_goals go_ret2
      all_goals exact ⟨rfl, A4.out⟩
end Go.Proofs.Ytagedifalinklaa
