/- RecordApart holds of every raw record, every real number and every key: what is wild in one field changes no other one, but for its mark. No condition. -/
import Derived.Test.YtknhejpomemilaaLaw11
import Derived.Test.YtknhejpomemilaaLeaf
import Derived.Test.YtknhejpomemilaaBlks
import Derived.Deep.DeepCutAuto
namespace Go.Proofs.Ytknhejpomemilaa.recordApart
open Go.ChangeShapes Go.WideShapes Go.ChangeAt Go.RowKit Ieee
set_option linter.unusedVariables false
set_option linter.unusedSimpArgs false
set_option maxRecDepth 100000
attribute [local go_sem] run_store_real cell_set_ite Near.cell Near.frozen

theorem bit0 : ∀ (a x t b e k : Bool), bits .or .i64 (bits .andNot .i64 (badV x t b e k) 1) (bits .and .i64 (badV a t b e k) 1) = badV a t b e k := by decide +kernel
theorem bit1 : ∀ (a t x b e k : Bool), bits .or .i64 (bits .andNot .i64 (badV a x b e k) 2) (bits .and .i64 (badV a t b e k) 2) = badV a t b e k := by decide +kernel
theorem bit2 : ∀ (a t b x e k : Bool), bits .or .i64 (bits .andNot .i64 (badV a t x e k) 4) (bits .and .i64 (badV a t b e k) 4) = badV a t b e k := by decide +kernel
theorem bit3 : ∀ (a t b e x k : Bool), bits .or .i64 (bits .andNot .i64 (badV a t b x k) 8) (bits .and .i64 (badV a t b e k) 8) = badV a t b e k := by decide +kernel
theorem bit4 : ∀ (a t b e k x : Bool), bits .or .i64 (bits .andNot .i64 (badV a t b e x) 16) (bits .and .i64 (badV a t b e k) 16) = badV a t b e k := by decide +kernel

set_option maxHeartbeats 16000000 in
theorem walk (ra : Nat) (wa : (Lit.float .f64 ra).wf = true) (rt : Nat) (wt : (Lit.float .f64 rt).wf = true) (rb : Nat) (wb : (Lit.float .f64 rb).wf = true) (re : Nat) (we : (Lit.float .f64 re).wf = true) (rd : Bool) (rk : Int) (wk : (Lit.int .i64 rk).wf = true) (rz : Bool) (wx : Nat) (wwx : (Lit.float .f64 wx).wf = true) (wy : Int) (wwy : (Lit.int .i64 wy).wf = true) (W : World) :
    Calls Try.prog 6 #[.agg #[.float .f64 ra, .float .f64 rt, .float .f64 rb, .float .f64 re, .bool rd, .int .i64 rk, .bool rz], .float .f64 wx, .int .i64 wy] W fun x W' => x = .returned (.bool true) ∧ Below W.heap.size W W' := by
  clear wa wt wb we wk wwx wwy
  have h := fun w => rc_take ra rt rb re rd rk rz w
  have h0 := fun w => rc_take wx rt rb re rd rk rz w
  have h1 := fun w => rc_take ra wx rb re rd rk rz w
  have h2 := fun w => rc_take ra rt wx re rd rk rz w
  have h3 := fun w => rc_take ra rt rb wx rd rk rz w
  have h4 := fun w => rc_take ra rt rb re rd wy rz w
  have z0 := bit0 (tkB ra 0 4095) (tkB wx 0 4095) (tkB rt 0 180) (tkB rb 0 6000) (tkB re 0 300) (!upB rk 10)
  have z1 := bit1 (tkB ra 0 4095) (tkB rt 0 180) (tkB wx 0 180) (tkB rb 0 6000) (tkB re 0 300) (!upB rk 10)
  have z2 := bit2 (tkB ra 0 4095) (tkB rt 0 180) (tkB rb 0 6000) (tkB wx 0 6000) (tkB re 0 300) (!upB rk 10)
  have z3 := bit3 (tkB ra 0 4095) (tkB rt 0 180) (tkB rb 0 6000) (tkB re 0 300) (tkB wx 0 300) (!upB rk 10)
  have z4 := bit4 (tkB ra 0 4095) (tkB rt 0 180) (tkB rb 0 6000) (tkB re 0 300) (!upB rk 10) (!upB wy 10)
  generalize badV (tkB wx 0 4095) (tkB rt 0 180) (tkB rb 0 6000) (tkB re 0 300) (!upB rk 10) = O0 at *
  generalize badV (tkB ra 0 4095) (tkB wx 0 180) (tkB rb 0 6000) (tkB re 0 300) (!upB rk 10) = O1 at *
  generalize badV (tkB ra 0 4095) (tkB rt 0 180) (tkB wx 0 6000) (tkB re 0 300) (!upB rk 10) = O2 at *
  generalize badV (tkB ra 0 4095) (tkB rt 0 180) (tkB rb 0 6000) (tkB wx 0 300) (!upB rk 10) = O3 at *
  generalize badV (tkB ra 0 4095) (tkB rt 0 180) (tkB rb 0 6000) (tkB re 0 300) (!upB wy 10) = O4 at *
  generalize badV (tkB ra 0 4095) (tkB rt 0 180) (tkB rb 0 6000) (tkB re 0 300) (!upB rk 10) = VO at *
  generalize tkV wx 0 4095 = X0 at *
  generalize tkV wx 0 180 = X1 at *
  generalize tkV wx 0 6000 = X2 at *
  generalize tkV wx 0 300 = X3 at *
  generalize kyV wy = X4 at *
  generalize tkV ra 0 4095 = VA at *
  generalize tkV rt 0 180 = VT at *
  generalize tkV rb 0 6000 = VB at *
  generalize tkV re 0 300 = VE at *
  generalize kyV rk = VK at *
  have H := Lib.hid h
  have H0 := Lib.hid h0
  have H1 := Lib.hid h1
  have H2 := Lib.hid h2
  have H3 := Lib.hid h3
  have H4 := Lib.hid h4
  clear h h0 h1 h2 h3 h4
  have A0 : Below W.heap.size W W := Below.refl _ _
  go_enter Try.func6, Try.ntmps6
  go_wp2_with (fail)
  refine (H.out _).mono ?_
  rintro e w0 ⟨rfl, hb⟩
  have A1 := below_call (below_alloc_on A0 _) hb
  have R1 := (box_new W _ _).below hb
  clear hb A0
  go_upto_region 2 with (fail)
  refine at_world (fun w => Below W.heap.size W w ∧ Box w W.heap.size #[.float .f64 ra, .float .f64 rt, .float .f64 rb, .float .f64 re, .bool rd, .int .i64 rk, .bool rz] ∧ Box w w0.heap.size #[.int .i64 VA, .int .i64 VT, .int .i64 VB, .int .i64 VE, .bool rd, .int .i64 VK, .bool rz, .int .i64 VO]) ⟨by (repeat (first | (with_reducible exact Below.refl _ _) | (with_reducible assumption) | (with_reducible refine Near.up _ ?_) | (with_reducible refine Below.drew ?_) | (with_reducible refine below_alloc_on ?_ _) | (with_reducible refine below_set_on ?_ (by first | (simp; done) | (simp; omega) | omega) _))), by (repeat (first | (with_reducible assumption) | (with_reducible exact box_new _ _ _) | ((with_reducible apply box_at); (first | (with_reducible rfl) | (simp <;> omega))) | (with_reducible apply Box.drew) | (with_reducible apply Box.drewN) | (with_reducible apply Box.near) | (with_reducible apply Box.alloc) | ((with_reducible apply box_far); (first | assumption | omega | (simp <;> omega))) | ((with_reducible apply Box.one_set); (with_reducible assumption)) | ((with_reducible apply Box.two_set); (with_reducible assumption)) | ((with_reducible apply Box.three_set); (with_reducible assumption)) | (with_reducible apply Box.set) | (simp only [List.size_toArray, List.length_cons, List.length_nil, Array.size_setIfInBounds] <;> omega))), box_cast (by (repeat (first | (with_reducible assumption) | (with_reducible exact box_new _ _ _) | ((with_reducible apply box_at); (first | (with_reducible rfl) | (simp <;> omega))) | (with_reducible apply Box.drew) | (with_reducible apply Box.drewN) | (with_reducible apply Box.near) | (with_reducible apply Box.alloc) | ((with_reducible apply box_far); (first | assumption | omega | (simp <;> omega))) | ((with_reducible apply Box.one_set); (with_reducible assumption)) | ((with_reducible apply Box.two_set); (with_reducible assumption)) | ((with_reducible apply Box.three_set); (with_reducible assumption)) | (with_reducible apply Box.set) | (simp only [List.size_toArray, List.length_cons, List.length_nil, Array.size_setIfInBounds] <;> omega)))) (by first | rfl | simp)⟩ ?_
  have lr := R1.1
  clear A1 R1
  rintro w1 ⟨A1, R1, P1⟩
  obtain ⟨p, hpe⟩ : ∃ p, w0.heap.size = p := ⟨_, rfl⟩
  obtain ⟨r, hre⟩ : ∃ r, W.heap.size = r := ⟨_, rfl⟩
  have orr : W.heap.size ≤ r := by omega
  have opp : W.heap.size ≤ p := by omega
  rw [hpe] at P1
  rw [hre] at R1
  simp only [hpe]
  simp only [hre]
  clear hre hpe lr
  obtain ⟨B, hBe⟩ : ∃ B, w1.heap.size = B := ⟨_, rfl⟩
  have hB0 : B ≤ w1.drew.heap.size := Nat.le_of_eq hBe.symm
  have hr : r < B := by rw [← hBe]; exact R1.1
  have hp : p < B := by rw [← hBe]; exact P1.1
  have hBW : W.heap.size ≤ B := by omega
  clear hBe
  have HR : Box w1.drew r #[.float .f64 ra, .float .f64 rt, .float .f64 rb, .float .f64 re, .bool rd, .int .i64 rk, .bool rz] := R1
  obtain ⟨cs, hcs⟩ : ∃ cs : Nat → Value, (fun i => match i with
      | 0 => .agg #[.float .f64 ra, .float .f64 rt, .float .f64 rb, .float .f64 re, .bool rd, .int .i64 rk, .bool rz]
      | 1 => .agg #[.float .f64 ra, .float .f64 rt, .float .f64 rb, .float .f64 re, .bool rd, .int .i64 rk, .bool rz]
      | 2 => .agg #[.float .f64 ra, .float .f64 rt, .float .f64 rb, .float .f64 re, .bool rd, .int .i64 rk, .bool rz]
      | 3 => .agg #[.float .f64 ra, .float .f64 rt, .float .f64 rb, .float .f64 re, .bool rd, .int .i64 rk, .bool rz]
      | 4 => .agg #[.float .f64 ra, .float .f64 rt, .float .f64 rb, .float .f64 re, .bool rd, .int .i64 rk, .bool rz]
      | _ => undef) = cs := ⟨_, rfl⟩
  have e0 : cs 0 = .agg #[.float .f64 ra, .float .f64 rt, .float .f64 rb, .float .f64 re, .bool rd, .int .i64 rk, .bool rz] := by rw [← hcs]; rfl
  have e1 : cs 1 = .agg #[.float .f64 ra, .float .f64 rt, .float .f64 rb, .float .f64 re, .bool rd, .int .i64 rk, .bool rz] := by rw [← hcs]; rfl
  have e2 : cs 2 = .agg #[.float .f64 ra, .float .f64 rt, .float .f64 rb, .float .f64 re, .bool rd, .int .i64 rk, .bool rz] := by rw [← hcs]; rfl
  have e3 : cs 3 = .agg #[.float .f64 ra, .float .f64 rt, .float .f64 rb, .float .f64 re, .bool rd, .int .i64 rk, .bool rz] := by rw [← hcs]; rfl
  have e4 : cs 4 = .agg #[.float .f64 ra, .float .f64 rt, .float .f64 rb, .float .f64 re, .bool rd, .int .i64 rk, .bool rz] := by rw [← hcs]; rfl
  clear hcs
  refine wp_region_looseS 15 126 (by as_aux_lemma => kernel_rfl) (by as_aux_lemma => kernel_rfl) rfl (fun w w' => Below B w w') (fun w => Below.refl _ _) (fun a b c h g => Below.trans h g)
    (looseD (fun i => if 5 ≤ i then some fun _ _ => True else none) cs)
    (fun L V w => Blks 5 B (fun _ => #[.float .f64 0, .float .f64 0, .float .f64 0, .float .f64 0, .bool false, .int .i64 0, .bool false]) (fun _ => #[.float .f64 ra, .float .f64 rt, .float .f64 rb, .float .f64 re, .bool rd, .int .i64 rk, .bool rz]) (fun i => L (5 + i)) (fun i => L (10 + i)) (fun i => V (5 + i)) w)
    (looseD_stable ?_) (fun L L' V V' w hl hv h => h.congr (fun i hi => (hl _).symm) (fun i hi => (hl _).symm) (fun i hi ha => by match i, hi with | 0, _ => exact (hv 5 ha (by decide +kernel)).symm | 1, _ => exact (hv 6 ha (by decide +kernel)).symm | 2, _ => exact (hv 7 ha (by decide +kernel)).symm | 3, _ => exact (hv 8 ha (by decide +kernel)).symm | 4, _ => exact (hv 9 ha (by decide +kernel)).symm)) (Blks.none (fun _ _ => rfl) (fun _ _ => rfl)) ?_ ?_
  · intro i p hp v u u' h hE
    split at hp
    · cases hp; trivial
    · cases hp
  · simp only [List.take_succ_cons, List.take_zero]
    refine looseSAll_cons (k := 1) rfl (fun a u L hE hev hkn hLi hG => ?_) ?_
    · have kc : ∀ c, a.eval (.const c) = c := fun _ => rfl
      have kf : ∀ f, a.eval (.func f) = .func (.func f) #[] #[] := fun _ => rfl
      have t3 : a.eval (.tmp 3) = .pointer (some ⟨r, 0, none⟩) := hev 3 (by kernel_rfl)
      have cr := (box_in HR hE hr).2.1
      exact loose_val rfl (v := .agg #[.float .f64 ra, .float .f64 rt, .float .f64 rb, .float .f64 re, .bool rd, .int .i64 rk, .bool rz]) (by generalize a.eval = ev at *; simp [go_sem, kc, kf, t3, cr]) ⟨Below.refl _ _, e0.symm, hG.congr (fun i hi => if_neg (by omega)) (fun i hi => if_neg (by omega)) (fun i hi _ => if_neg (by omega))⟩
    refine looseSAll_cons (k := 2) rfl (fun a u L hE hev hkn hLi hG => ?_) ?_
    · have kc : ∀ c, a.eval (.const c) = c := fun _ => rfl
      have kf : ∀ f, a.eval (.func f) = .func (.func f) #[] #[] := fun _ => rfl
      have t3 : a.eval (.tmp 3) = .pointer (some ⟨r, 0, none⟩) := hev 3 (by kernel_rfl)
      have cr := (box_in HR hE hr).2.1
      exact loose_val rfl (v := .agg #[.float .f64 ra, .float .f64 rt, .float .f64 rb, .float .f64 re, .bool rd, .int .i64 rk, .bool rz]) (by generalize a.eval = ev at *; simp [go_sem, kc, kf, t3, cr]) ⟨Below.refl _ _, e1.symm, hG.congr (fun i hi => if_neg (by omega)) (fun i hi => if_neg (by omega)) (fun i hi _ => if_neg (by omega))⟩
    refine looseSAll_cons (k := 3) rfl (fun a u L hE hev hkn hLi hG => ?_) ?_
    · have kc : ∀ c, a.eval (.const c) = c := fun _ => rfl
      have kf : ∀ f, a.eval (.func f) = .func (.func f) #[] #[] := fun _ => rfl
      have t3 : a.eval (.tmp 3) = .pointer (some ⟨r, 0, none⟩) := hev 3 (by kernel_rfl)
      have cr := (box_in HR hE hr).2.1
      exact loose_val rfl (v := .agg #[.float .f64 ra, .float .f64 rt, .float .f64 rb, .float .f64 re, .bool rd, .int .i64 rk, .bool rz]) (by generalize a.eval = ev at *; simp [go_sem, kc, kf, t3, cr]) ⟨Below.refl _ _, e2.symm, hG.congr (fun i hi => if_neg (by omega)) (fun i hi => if_neg (by omega)) (fun i hi _ => if_neg (by omega))⟩
    refine looseSAll_cons (k := 4) rfl (fun a u L hE hev hkn hLi hG => ?_) ?_
    · have kc : ∀ c, a.eval (.const c) = c := fun _ => rfl
      have kf : ∀ f, a.eval (.func f) = .func (.func f) #[] #[] := fun _ => rfl
      have t3 : a.eval (.tmp 3) = .pointer (some ⟨r, 0, none⟩) := hev 3 (by kernel_rfl)
      have cr := (box_in HR hE hr).2.1
      exact loose_val rfl (v := .agg #[.float .f64 ra, .float .f64 rt, .float .f64 rb, .float .f64 re, .bool rd, .int .i64 rk, .bool rz]) (by generalize a.eval = ev at *; simp [go_sem, kc, kf, t3, cr]) ⟨Below.refl _ _, e3.symm, hG.congr (fun i hi => if_neg (by omega)) (fun i hi => if_neg (by omega)) (fun i hi _ => if_neg (by omega))⟩
    refine looseSAll_cons (k := 5) rfl (fun a u L hE hev hkn hLi hG => ?_) ?_
    · have kc : ∀ c, a.eval (.const c) = c := fun _ => rfl
      have kf : ∀ f, a.eval (.func f) = .func (.func f) #[] #[] := fun _ => rfl
      have t3 : a.eval (.tmp 3) = .pointer (some ⟨r, 0, none⟩) := hev 3 (by kernel_rfl)
      have cr := (box_in HR hE hr).2.1
      exact loose_val rfl (v := .agg #[.float .f64 ra, .float .f64 rt, .float .f64 rb, .float .f64 re, .bool rd, .int .i64 rk, .bool rz]) (by generalize a.eval = ev at *; simp [go_sem, kc, kf, t3, cr]) ⟨Below.refl _ _, e4.symm, hG.congr (fun i hi => if_neg (by omega)) (fun i hi => if_neg (by omega)) (fun i hi _ => if_neg (by omega))⟩
    refine looseSAll_cons (k := 6) rfl (fun a u L hE hev hkn hLi hG => ?_) ?_
    · have kc : ∀ c, a.eval (.const c) = c := fun _ => rfl
      have kf : ∀ f, a.eval (.func f) = .func (.func f) #[] #[] := fun _ => rfl
      have hB : B ≤ u.heap.size := Nat.le_trans hB0 hE.size
      exact loose_val rfl (v := .pointer (some ⟨u.heap.size, 0, none⟩)) (w' := u.alloc (.cells #[.float .f64 0, .float .f64 0, .float .f64 0, .float .f64 0, .bool false, .int .i64 0, .bool false] 54)) (by generalize a.eval = ev at *; simp [go_sem, kc, kf]) ⟨(Below.refl B u).alloc hB _, trivial, hG.alloc hB 54 0 hLi (fun i hi => upd (by omega) _ _) (fun i hi => if_neg (by omega)) (fun i hi => upd (by omega) _ _)⟩
    refine looseSAll_cons (k := 7) rfl (fun a u L hE hev hkn hLi hG => ?_) ?_
    · have kc : ∀ c, a.eval (.const c) = c := fun _ => rfl
      have kf : ∀ f, a.eval (.func f) = .func (.func f) #[] #[] := fun _ => rfl
      have hB : B ≤ u.heap.size := Nat.le_trans hB0 hE.size
      exact loose_val rfl (v := .pointer (some ⟨u.heap.size, 0, none⟩)) (w' := u.alloc (.cells #[.float .f64 0, .float .f64 0, .float .f64 0, .float .f64 0, .bool false, .int .i64 0, .bool false] 54)) (by generalize a.eval = ev at *; simp [go_sem, kc, kf]) ⟨(Below.refl B u).alloc hB _, trivial, hG.alloc hB 54 1 hLi (fun i hi => upd (by omega) _ _) (fun i hi => if_neg (by omega)) (fun i hi => upd (by omega) _ _)⟩
    refine looseSAll_cons (k := 8) rfl (fun a u L hE hev hkn hLi hG => ?_) ?_
    · have kc : ∀ c, a.eval (.const c) = c := fun _ => rfl
      have kf : ∀ f, a.eval (.func f) = .func (.func f) #[] #[] := fun _ => rfl
      have hB : B ≤ u.heap.size := Nat.le_trans hB0 hE.size
      exact loose_val rfl (v := .pointer (some ⟨u.heap.size, 0, none⟩)) (w' := u.alloc (.cells #[.float .f64 0, .float .f64 0, .float .f64 0, .float .f64 0, .bool false, .int .i64 0, .bool false] 54)) (by generalize a.eval = ev at *; simp [go_sem, kc, kf]) ⟨(Below.refl B u).alloc hB _, trivial, hG.alloc hB 54 2 hLi (fun i hi => upd (by omega) _ _) (fun i hi => if_neg (by omega)) (fun i hi => upd (by omega) _ _)⟩
    refine looseSAll_cons (k := 9) rfl (fun a u L hE hev hkn hLi hG => ?_) ?_
    · have kc : ∀ c, a.eval (.const c) = c := fun _ => rfl
      have kf : ∀ f, a.eval (.func f) = .func (.func f) #[] #[] := fun _ => rfl
      have hB : B ≤ u.heap.size := Nat.le_trans hB0 hE.size
      exact loose_val rfl (v := .pointer (some ⟨u.heap.size, 0, none⟩)) (w' := u.alloc (.cells #[.float .f64 0, .float .f64 0, .float .f64 0, .float .f64 0, .bool false, .int .i64 0, .bool false] 54)) (by generalize a.eval = ev at *; simp [go_sem, kc, kf]) ⟨(Below.refl B u).alloc hB _, trivial, hG.alloc hB 54 3 hLi (fun i hi => upd (by omega) _ _) (fun i hi => if_neg (by omega)) (fun i hi => upd (by omega) _ _)⟩
    refine looseSAll_cons (k := 10) rfl (fun a u L hE hev hkn hLi hG => ?_) ?_
    · have kc : ∀ c, a.eval (.const c) = c := fun _ => rfl
      have kf : ∀ f, a.eval (.func f) = .func (.func f) #[] #[] := fun _ => rfl
      have hB : B ≤ u.heap.size := Nat.le_trans hB0 hE.size
      exact loose_val rfl (v := .pointer (some ⟨u.heap.size, 0, none⟩)) (w' := u.alloc (.cells #[.float .f64 0, .float .f64 0, .float .f64 0, .float .f64 0, .bool false, .int .i64 0, .bool false] 54)) (by generalize a.eval = ev at *; simp [go_sem, kc, kf]) ⟨(Below.refl B u).alloc hB _, trivial, hG.alloc hB 54 4 hLi (fun i hi => upd (by omega) _ _) (fun i hi => if_neg (by omega)) (fun i hi => upd (by omega) _ _)⟩
    refine looseSAll_cons (k := 11) rfl (fun a u L hE hev hkn hLi hG => ?_) ?_
    · have kc : ∀ c, a.eval (.const c) = c := fun _ => rfl
      have kf : ∀ f, a.eval (.func f) = .func (.func f) #[] #[] := fun _ => rfl
      have hal := (hkn 5 (by kernel_rfl)).1
      have t20 : a.eval (.tmp 20) = .agg #[.float .f64 ra, .float .f64 rt, .float .f64 rb, .float .f64 re, .bool rd, .int .i64 rk, .bool rz] := ((hkn 0 (by kernel_rfl)).2 (by decide +kernel) : a.eval (.tmp 20) = cs 0).trans e0
      obtain ⟨g, hV, hb, hx, hput⟩ := hG.get 0 (by omega) hal hLi
      have t8 : a.eval (.tmp 8) = .pointer (some ⟨g, 0, none⟩) := hV
      have cg := hx.2.1
      have fg := hx.2.2
      have lg := hx.1
      refine loose_store rfl rfl (w' := (World.setCell (World.setCell (World.setCell (World.setCell (World.setCell (World.setCell (World.setCell u ⟨g, 0, none⟩ (.float .f64 ra)) ⟨g, 1, none⟩ (.float .f64 rt)) ⟨g, 2, none⟩ (.float .f64 rb)) ⟨g, 3, none⟩ (.float .f64 re)) ⟨g, 4, none⟩ (.bool rd)) ⟨g, 5, none⟩ (.int .i64 rk)) ⟨g, 6, none⟩ (.bool rz))) (by generalize a.eval = ev at *; simp [go_sem, kc, kf, t8, t20, cg, fg, lg]) ⟨(((((((Below.refl B u).setCell (p := ⟨g, 0, none⟩) hb (.float .f64 ra)).setCell (p := ⟨g, 1, none⟩) hb (.float .f64 rt)).setCell (p := ⟨g, 2, none⟩) hb (.float .f64 rb)).setCell (p := ⟨g, 3, none⟩) hb (.float .f64 re)).setCell (p := ⟨g, 4, none⟩) hb (.bool rd)).setCell (p := ⟨g, 5, none⟩) hb (.int .i64 rk)).setCell (p := ⟨g, 6, none⟩) hb (.bool rz), trivial, ?_⟩
      refine (hput _ (fun i => if i = 0 then true else L (10 + i)) (Box.seven_set hx (.float .f64 ra) (.float .f64 rt) (.float .f64 rb) (.float .f64 re) (.bool rd) (.int .i64 rk) (.bool rz)) (fun g' cs h ne0 => ?_) (fun i hi => rfl)).congr (fun i hi => if_neg (by omega)) (fun i hi => upd (by omega) _ _) (fun i hi _ => if_neg (by omega))
      have ne : ¬ g = g' := fun e => h e.symm
      exact Box.far (Box.far (Box.far (Box.far (Box.far (Box.far (Box.far (ne0) ne (.float .f64 ra)) ne (.float .f64 rt)) ne (.float .f64 rb)) ne (.float .f64 re)) ne (.bool rd)) ne (.int .i64 rk)) ne (.bool rz)
    refine looseSAll_cons (k := 12) rfl (fun a u L hE hev hkn hLi hG => ?_) ?_
    · have kc : ∀ c, a.eval (.const c) = c := fun _ => rfl
      have kf : ∀ f, a.eval (.func f) = .func (.func f) #[] #[] := fun _ => rfl
      have hal := (hkn 6 (by kernel_rfl)).1
      have t21 : a.eval (.tmp 21) = .agg #[.float .f64 ra, .float .f64 rt, .float .f64 rb, .float .f64 re, .bool rd, .int .i64 rk, .bool rz] := ((hkn 1 (by kernel_rfl)).2 (by decide +kernel) : a.eval (.tmp 21) = cs 1).trans e1
      obtain ⟨g, hV, hb, hx, hput⟩ := hG.get 1 (by omega) hal hLi
      have t9 : a.eval (.tmp 9) = .pointer (some ⟨g, 0, none⟩) := hV
      have cg := hx.2.1
      have fg := hx.2.2
      have lg := hx.1
      refine loose_store rfl rfl (w' := (World.setCell (World.setCell (World.setCell (World.setCell (World.setCell (World.setCell (World.setCell u ⟨g, 0, none⟩ (.float .f64 ra)) ⟨g, 1, none⟩ (.float .f64 rt)) ⟨g, 2, none⟩ (.float .f64 rb)) ⟨g, 3, none⟩ (.float .f64 re)) ⟨g, 4, none⟩ (.bool rd)) ⟨g, 5, none⟩ (.int .i64 rk)) ⟨g, 6, none⟩ (.bool rz))) (by generalize a.eval = ev at *; simp [go_sem, kc, kf, t9, t21, cg, fg, lg]) ⟨(((((((Below.refl B u).setCell (p := ⟨g, 0, none⟩) hb (.float .f64 ra)).setCell (p := ⟨g, 1, none⟩) hb (.float .f64 rt)).setCell (p := ⟨g, 2, none⟩) hb (.float .f64 rb)).setCell (p := ⟨g, 3, none⟩) hb (.float .f64 re)).setCell (p := ⟨g, 4, none⟩) hb (.bool rd)).setCell (p := ⟨g, 5, none⟩) hb (.int .i64 rk)).setCell (p := ⟨g, 6, none⟩) hb (.bool rz), trivial, ?_⟩
      refine (hput _ (fun i => if i = 1 then true else L (10 + i)) (Box.seven_set hx (.float .f64 ra) (.float .f64 rt) (.float .f64 rb) (.float .f64 re) (.bool rd) (.int .i64 rk) (.bool rz)) (fun g' cs h ne0 => ?_) (fun i hi => rfl)).congr (fun i hi => if_neg (by omega)) (fun i hi => upd (by omega) _ _) (fun i hi _ => if_neg (by omega))
      have ne : ¬ g = g' := fun e => h e.symm
      exact Box.far (Box.far (Box.far (Box.far (Box.far (Box.far (Box.far (ne0) ne (.float .f64 ra)) ne (.float .f64 rt)) ne (.float .f64 rb)) ne (.float .f64 re)) ne (.bool rd)) ne (.int .i64 rk)) ne (.bool rz)
    refine looseSAll_cons (k := 13) rfl (fun a u L hE hev hkn hLi hG => ?_) ?_
    · have kc : ∀ c, a.eval (.const c) = c := fun _ => rfl
      have kf : ∀ f, a.eval (.func f) = .func (.func f) #[] #[] := fun _ => rfl
      have hal := (hkn 7 (by kernel_rfl)).1
      have t22 : a.eval (.tmp 22) = .agg #[.float .f64 ra, .float .f64 rt, .float .f64 rb, .float .f64 re, .bool rd, .int .i64 rk, .bool rz] := ((hkn 2 (by kernel_rfl)).2 (by decide +kernel) : a.eval (.tmp 22) = cs 2).trans e2
      obtain ⟨g, hV, hb, hx, hput⟩ := hG.get 2 (by omega) hal hLi
      have t10 : a.eval (.tmp 10) = .pointer (some ⟨g, 0, none⟩) := hV
      have cg := hx.2.1
      have fg := hx.2.2
      have lg := hx.1
      refine loose_store rfl rfl (w' := (World.setCell (World.setCell (World.setCell (World.setCell (World.setCell (World.setCell (World.setCell u ⟨g, 0, none⟩ (.float .f64 ra)) ⟨g, 1, none⟩ (.float .f64 rt)) ⟨g, 2, none⟩ (.float .f64 rb)) ⟨g, 3, none⟩ (.float .f64 re)) ⟨g, 4, none⟩ (.bool rd)) ⟨g, 5, none⟩ (.int .i64 rk)) ⟨g, 6, none⟩ (.bool rz))) (by generalize a.eval = ev at *; simp [go_sem, kc, kf, t10, t22, cg, fg, lg]) ⟨(((((((Below.refl B u).setCell (p := ⟨g, 0, none⟩) hb (.float .f64 ra)).setCell (p := ⟨g, 1, none⟩) hb (.float .f64 rt)).setCell (p := ⟨g, 2, none⟩) hb (.float .f64 rb)).setCell (p := ⟨g, 3, none⟩) hb (.float .f64 re)).setCell (p := ⟨g, 4, none⟩) hb (.bool rd)).setCell (p := ⟨g, 5, none⟩) hb (.int .i64 rk)).setCell (p := ⟨g, 6, none⟩) hb (.bool rz), trivial, ?_⟩
      refine (hput _ (fun i => if i = 2 then true else L (10 + i)) (Box.seven_set hx (.float .f64 ra) (.float .f64 rt) (.float .f64 rb) (.float .f64 re) (.bool rd) (.int .i64 rk) (.bool rz)) (fun g' cs h ne0 => ?_) (fun i hi => rfl)).congr (fun i hi => if_neg (by omega)) (fun i hi => upd (by omega) _ _) (fun i hi _ => if_neg (by omega))
      have ne : ¬ g = g' := fun e => h e.symm
      exact Box.far (Box.far (Box.far (Box.far (Box.far (Box.far (Box.far (ne0) ne (.float .f64 ra)) ne (.float .f64 rt)) ne (.float .f64 rb)) ne (.float .f64 re)) ne (.bool rd)) ne (.int .i64 rk)) ne (.bool rz)
    refine looseSAll_cons (k := 14) rfl (fun a u L hE hev hkn hLi hG => ?_) ?_
    · have kc : ∀ c, a.eval (.const c) = c := fun _ => rfl
      have kf : ∀ f, a.eval (.func f) = .func (.func f) #[] #[] := fun _ => rfl
      have hal := (hkn 8 (by kernel_rfl)).1
      have t23 : a.eval (.tmp 23) = .agg #[.float .f64 ra, .float .f64 rt, .float .f64 rb, .float .f64 re, .bool rd, .int .i64 rk, .bool rz] := ((hkn 3 (by kernel_rfl)).2 (by decide +kernel) : a.eval (.tmp 23) = cs 3).trans e3
      obtain ⟨g, hV, hb, hx, hput⟩ := hG.get 3 (by omega) hal hLi
      have t11 : a.eval (.tmp 11) = .pointer (some ⟨g, 0, none⟩) := hV
      have cg := hx.2.1
      have fg := hx.2.2
      have lg := hx.1
      refine loose_store rfl rfl (w' := (World.setCell (World.setCell (World.setCell (World.setCell (World.setCell (World.setCell (World.setCell u ⟨g, 0, none⟩ (.float .f64 ra)) ⟨g, 1, none⟩ (.float .f64 rt)) ⟨g, 2, none⟩ (.float .f64 rb)) ⟨g, 3, none⟩ (.float .f64 re)) ⟨g, 4, none⟩ (.bool rd)) ⟨g, 5, none⟩ (.int .i64 rk)) ⟨g, 6, none⟩ (.bool rz))) (by generalize a.eval = ev at *; simp [go_sem, kc, kf, t11, t23, cg, fg, lg]) ⟨(((((((Below.refl B u).setCell (p := ⟨g, 0, none⟩) hb (.float .f64 ra)).setCell (p := ⟨g, 1, none⟩) hb (.float .f64 rt)).setCell (p := ⟨g, 2, none⟩) hb (.float .f64 rb)).setCell (p := ⟨g, 3, none⟩) hb (.float .f64 re)).setCell (p := ⟨g, 4, none⟩) hb (.bool rd)).setCell (p := ⟨g, 5, none⟩) hb (.int .i64 rk)).setCell (p := ⟨g, 6, none⟩) hb (.bool rz), trivial, ?_⟩
      refine (hput _ (fun i => if i = 3 then true else L (10 + i)) (Box.seven_set hx (.float .f64 ra) (.float .f64 rt) (.float .f64 rb) (.float .f64 re) (.bool rd) (.int .i64 rk) (.bool rz)) (fun g' cs h ne0 => ?_) (fun i hi => rfl)).congr (fun i hi => if_neg (by omega)) (fun i hi => upd (by omega) _ _) (fun i hi _ => if_neg (by omega))
      have ne : ¬ g = g' := fun e => h e.symm
      exact Box.far (Box.far (Box.far (Box.far (Box.far (Box.far (Box.far (ne0) ne (.float .f64 ra)) ne (.float .f64 rt)) ne (.float .f64 rb)) ne (.float .f64 re)) ne (.bool rd)) ne (.int .i64 rk)) ne (.bool rz)
    refine looseSAll_cons (k := 15) rfl (fun a u L hE hev hkn hLi hG => ?_) ?_
    · have kc : ∀ c, a.eval (.const c) = c := fun _ => rfl
      have kf : ∀ f, a.eval (.func f) = .func (.func f) #[] #[] := fun _ => rfl
      have hal := (hkn 9 (by kernel_rfl)).1
      have t24 : a.eval (.tmp 24) = .agg #[.float .f64 ra, .float .f64 rt, .float .f64 rb, .float .f64 re, .bool rd, .int .i64 rk, .bool rz] := ((hkn 4 (by kernel_rfl)).2 (by decide +kernel) : a.eval (.tmp 24) = cs 4).trans e4
      obtain ⟨g, hV, hb, hx, hput⟩ := hG.get 4 (by omega) hal hLi
      have t12 : a.eval (.tmp 12) = .pointer (some ⟨g, 0, none⟩) := hV
      have cg := hx.2.1
      have fg := hx.2.2
      have lg := hx.1
      refine loose_store rfl rfl (w' := (World.setCell (World.setCell (World.setCell (World.setCell (World.setCell (World.setCell (World.setCell u ⟨g, 0, none⟩ (.float .f64 ra)) ⟨g, 1, none⟩ (.float .f64 rt)) ⟨g, 2, none⟩ (.float .f64 rb)) ⟨g, 3, none⟩ (.float .f64 re)) ⟨g, 4, none⟩ (.bool rd)) ⟨g, 5, none⟩ (.int .i64 rk)) ⟨g, 6, none⟩ (.bool rz))) (by generalize a.eval = ev at *; simp [go_sem, kc, kf, t12, t24, cg, fg, lg]) ⟨(((((((Below.refl B u).setCell (p := ⟨g, 0, none⟩) hb (.float .f64 ra)).setCell (p := ⟨g, 1, none⟩) hb (.float .f64 rt)).setCell (p := ⟨g, 2, none⟩) hb (.float .f64 rb)).setCell (p := ⟨g, 3, none⟩) hb (.float .f64 re)).setCell (p := ⟨g, 4, none⟩) hb (.bool rd)).setCell (p := ⟨g, 5, none⟩) hb (.int .i64 rk)).setCell (p := ⟨g, 6, none⟩) hb (.bool rz), trivial, ?_⟩
      refine (hput _ (fun i => if i = 4 then true else L (10 + i)) (Box.seven_set hx (.float .f64 ra) (.float .f64 rt) (.float .f64 rb) (.float .f64 re) (.bool rd) (.int .i64 rk) (.bool rz)) (fun g' cs h ne0 => ?_) (fun i hi => rfl)).congr (fun i hi => if_neg (by omega)) (fun i hi => upd (by omega) _ _) (fun i hi _ => if_neg (by omega))
      have ne : ¬ g = g' := fun e => h e.symm
      exact Box.far (Box.far (Box.far (Box.far (Box.far (Box.far (Box.far (ne0) ne (.float .f64 ra)) ne (.float .f64 rt)) ne (.float .f64 rb)) ne (.float .f64 re)) ne (.bool rd)) ne (.int .i64 rk)) ne (.bool rz)
    exact looseSAll_nil
  · intro a w2 hE hsz hdf hO hDD hG
    have hOO : ∀ s, isDst _ s = false → a.tmps.getD s undef = (List.toArray (.agg #[.float .f64 ra, .float .f64 rt, .float .f64 rb, .float .f64 re, .bool rd, .int .i64 rk, .bool rz] :: .float .f64 wx :: .int .i64 wy :: .pointer (some ⟨r, 0, none⟩) :: undef :: undef :: .bool false :: .pointer (some ⟨p, 0, none⟩) :: undef :: undef :: undef :: undef :: undef :: undef :: undef :: undef :: undef :: undef :: .agg #[.float .f64 ra, .float .f64 rt, .float .f64 rb, .float .f64 re, .bool rd, .int .i64 rk, .bool rz] :: .agg #[.int .i64 VA, .int .i64 VT, .int .i64 VB, .int .i64 VE, .bool rd, .int .i64 VK, .bool rz, .int .i64 VO] :: undef :: undef :: undef :: undef :: undef :: undef :: undef :: undef :: undef :: undef :: undef :: undef :: undef :: undef :: undef :: undef :: undef :: undef :: undef :: undef :: undef :: undef :: undef :: undef :: undef :: undef :: undef :: undef :: undef :: undef :: undef :: undef :: undef :: undef :: undef :: undef :: undef :: undef :: undef :: undef :: undef :: undef :: undef :: undef :: undef :: undef :: undef :: undef :: undef :: undef :: undef :: undef :: undef :: undef :: undef :: undef :: undef :: undef :: undef :: undef :: undef :: undef :: undef :: undef :: undef :: undef :: undef :: undef :: undef :: undef :: undef :: undef :: undef :: undef :: undef :: undef :: undef :: undef :: undef :: undef :: undef :: undef :: undef :: undef :: undef :: undef :: undef :: undef :: undef :: undef :: undef :: undef :: undef :: undef :: undef :: undef :: undef :: undef :: undef :: undef :: undef :: undef :: undef :: undef :: undef :: undef :: []) : Array Value).getD s undef := fun s h => by rw [Array.getD_eq_getD_getElem?, Array.getD_eq_getD_getElem?, hO s h]
    obtain ⟨q, hq⟩ := hG.full (fun i hi => by simp; omega) (fun i hi => by simp; omega)
    obtain ⟨f0, b0, Y0, n0⟩ := hq 0 (by omega)
    obtain ⟨f1, b1, Y1, n1⟩ := hq 1 (by omega)
    obtain ⟨f2, b2, Y2, n2⟩ := hq 2 (by omega)
    obtain ⟨f3, b3, Y3, n3⟩ := hq 3 (by omega)
    obtain ⟨f4, b4, Y4, n4⟩ := hq 4 (by omega)
    replace f0 : a.tmps.getD 8 undef = .pointer (some ⟨q 0, 0, none⟩) := f0
    replace f1 : a.tmps.getD 9 undef = .pointer (some ⟨q 1, 0, none⟩) := f1
    replace f2 : a.tmps.getD 10 undef = .pointer (some ⟨q 2, 0, none⟩) := f2
    replace f3 : a.tmps.getD 11 undef = .pointer (some ⟨q 3, 0, none⟩) := f3
    replace f4 : a.tmps.getD 12 undef = .pointer (some ⟨q 4, 0, none⟩) := f4
    have m01 := n0 1 (by omega) (by omega)
    have m02 := n0 2 (by omega) (by omega)
    have m03 := n0 3 (by omega) (by omega)
    have m04 := n0 4 (by omega) (by omega)
    have m10 := n1 0 (by omega) (by omega)
    have m12 := n1 2 (by omega) (by omega)
    have m13 := n1 3 (by omega) (by omega)
    have m14 := n1 4 (by omega) (by omega)
    have m20 := n2 0 (by omega) (by omega)
    have m21 := n2 1 (by omega) (by omega)
    have m23 := n2 3 (by omega) (by omega)
    have m24 := n2 4 (by omega) (by omega)
    have m30 := n3 0 (by omega) (by omega)
    have m31 := n3 1 (by omega) (by omega)
    have m32 := n3 2 (by omega) (by omega)
    have m34 := n3 4 (by omega) (by omega)
    have m40 := n4 0 (by omega) (by omega)
    have m41 := n4 1 (by omega) (by omega)
    have m42 := n4 2 (by omega) (by omega)
    have m43 := n4 3 (by omega) (by omega)
    clear hq hG n0 n1 n2 n3 n4
    generalize q 0 = q0 at *
    generalize q 1 = q1 at *
    generalize q 2 = q2 at *
    generalize q 3 = q3 at *
    generalize q 4 = q4 at *
    obtain rfl := act_lit (ys := (List.toArray (.agg #[.float .f64 ra, .float .f64 rt, .float .f64 rb, .float .f64 re, .bool rd, .int .i64 rk, .bool rz] :: .float .f64 wx :: .int .i64 wy :: .pointer (some ⟨r, 0, none⟩) :: undef :: undef :: .bool false :: .pointer (some ⟨p, 0, none⟩) :: .pointer (some ⟨q0, 0, none⟩) :: .pointer (some ⟨q1, 0, none⟩) :: .pointer (some ⟨q2, 0, none⟩) :: .pointer (some ⟨q3, 0, none⟩) :: .pointer (some ⟨q4, 0, none⟩) :: undef :: undef :: undef :: undef :: undef :: .agg #[.float .f64 ra, .float .f64 rt, .float .f64 rb, .float .f64 re, .bool rd, .int .i64 rk, .bool rz] :: .agg #[.int .i64 VA, .int .i64 VT, .int .i64 VB, .int .i64 VE, .bool rd, .int .i64 VK, .bool rz, .int .i64 VO] :: .agg #[.float .f64 ra, .float .f64 rt, .float .f64 rb, .float .f64 re, .bool rd, .int .i64 rk, .bool rz] :: .agg #[.float .f64 ra, .float .f64 rt, .float .f64 rb, .float .f64 re, .bool rd, .int .i64 rk, .bool rz] :: .agg #[.float .f64 ra, .float .f64 rt, .float .f64 rb, .float .f64 re, .bool rd, .int .i64 rk, .bool rz] :: .agg #[.float .f64 ra, .float .f64 rt, .float .f64 rb, .float .f64 re, .bool rd, .int .i64 rk, .bool rz] :: .agg #[.float .f64 ra, .float .f64 rt, .float .f64 rb, .float .f64 re, .bool rd, .int .i64 rk, .bool rz] :: undef :: undef :: undef :: undef :: undef :: undef :: undef :: undef :: undef :: undef :: undef :: undef :: undef :: undef :: undef :: undef :: undef :: undef :: undef :: undef :: undef :: undef :: undef :: undef :: undef :: undef :: undef :: undef :: undef :: undef :: undef :: undef :: undef :: undef :: undef :: undef :: undef :: undef :: undef :: undef :: undef :: undef :: undef :: undef :: undef :: undef :: undef :: undef :: undef :: undef :: undef :: undef :: undef :: undef :: undef :: undef :: undef :: undef :: undef :: undef :: undef :: undef :: undef :: undef :: undef :: undef :: undef :: undef :: undef :: undef :: undef :: undef :: undef :: undef :: undef :: undef :: undef :: undef :: undef :: undef :: undef :: undef :: undef :: undef :: undef :: undef :: undef :: undef :: undef :: undef :: undef :: undef :: undef :: undef :: undef :: undef :: undef :: undef :: undef :: undef :: undef :: []))) hdf hsz (fun s hs => match s, hs with
      | 0, _ => hOO 0 (by kernel_rfl)
      | 1, _ => hOO 1 (by kernel_rfl)
      | 2, _ => hOO 2 (by kernel_rfl)
      | 3, _ => hOO 3 (by kernel_rfl)
      | 4, _ => hOO 4 (by kernel_rfl)
      | 5, _ => hOO 5 (by kernel_rfl)
      | 6, _ => hOO 6 (by kernel_rfl)
      | 7, _ => hOO 7 (by kernel_rfl)
      | 8, _ => f0
      | 9, _ => f1
      | 10, _ => f2
      | 11, _ => f3
      | 12, _ => f4
      | 13, _ => hOO 13 (by kernel_rfl)
      | 14, _ => hOO 14 (by kernel_rfl)
      | 15, _ => hOO 15 (by kernel_rfl)
      | 16, _ => hOO 16 (by kernel_rfl)
      | 17, _ => hOO 17 (by kernel_rfl)
      | 18, _ => hOO 18 (by kernel_rfl)
      | 19, _ => hOO 19 (by kernel_rfl)
      | 20, _ => ((hDD 0 (by omega) (by decide +kernel)) : a.tmps.getD 20 undef = cs 0).trans e0
      | 21, _ => ((hDD 1 (by omega) (by decide +kernel)) : a.tmps.getD 21 undef = cs 1).trans e1
      | 22, _ => ((hDD 2 (by omega) (by decide +kernel)) : a.tmps.getD 22 undef = cs 2).trans e2
      | 23, _ => ((hDD 3 (by omega) (by decide +kernel)) : a.tmps.getD 23 undef = cs 3).trans e3
      | 24, _ => ((hDD 4 (by omega) (by decide +kernel)) : a.tmps.getD 24 undef = cs 4).trans e4
      | 25, _ => hOO 25 (by kernel_rfl)
      | 26, _ => hOO 26 (by kernel_rfl)
      | 27, _ => hOO 27 (by kernel_rfl)
      | 28, _ => hOO 28 (by kernel_rfl)
      | 29, _ => hOO 29 (by kernel_rfl)
      | 30, _ => hOO 30 (by kernel_rfl)
      | 31, _ => hOO 31 (by kernel_rfl)
      | 32, _ => hOO 32 (by kernel_rfl)
      | 33, _ => hOO 33 (by kernel_rfl)
      | 34, _ => hOO 34 (by kernel_rfl)
      | 35, _ => hOO 35 (by kernel_rfl)
      | 36, _ => hOO 36 (by kernel_rfl)
      | 37, _ => hOO 37 (by kernel_rfl)
      | 38, _ => hOO 38 (by kernel_rfl)
      | 39, _ => hOO 39 (by kernel_rfl)
      | 40, _ => hOO 40 (by kernel_rfl)
      | 41, _ => hOO 41 (by kernel_rfl)
      | 42, _ => hOO 42 (by kernel_rfl)
      | 43, _ => hOO 43 (by kernel_rfl)
      | 44, _ => hOO 44 (by kernel_rfl)
      | 45, _ => hOO 45 (by kernel_rfl)
      | 46, _ => hOO 46 (by kernel_rfl)
      | 47, _ => hOO 47 (by kernel_rfl)
      | 48, _ => hOO 48 (by kernel_rfl)
      | 49, _ => hOO 49 (by kernel_rfl)
      | 50, _ => hOO 50 (by kernel_rfl)
      | 51, _ => hOO 51 (by kernel_rfl)
      | 52, _ => hOO 52 (by kernel_rfl)
      | 53, _ => hOO 53 (by kernel_rfl)
      | 54, _ => hOO 54 (by kernel_rfl)
      | 55, _ => hOO 55 (by kernel_rfl)
      | 56, _ => hOO 56 (by kernel_rfl)
      | 57, _ => hOO 57 (by kernel_rfl)
      | 58, _ => hOO 58 (by kernel_rfl)
      | 59, _ => hOO 59 (by kernel_rfl)
      | 60, _ => hOO 60 (by kernel_rfl)
      | 61, _ => hOO 61 (by kernel_rfl)
      | 62, _ => hOO 62 (by kernel_rfl)
      | 63, _ => hOO 63 (by kernel_rfl)
      | 64, _ => hOO 64 (by kernel_rfl)
      | 65, _ => hOO 65 (by kernel_rfl)
      | 66, _ => hOO 66 (by kernel_rfl)
      | 67, _ => hOO 67 (by kernel_rfl)
      | 68, _ => hOO 68 (by kernel_rfl)
      | 69, _ => hOO 69 (by kernel_rfl)
      | 70, _ => hOO 70 (by kernel_rfl)
      | 71, _ => hOO 71 (by kernel_rfl)
      | 72, _ => hOO 72 (by kernel_rfl)
      | 73, _ => hOO 73 (by kernel_rfl)
      | 74, _ => hOO 74 (by kernel_rfl)
      | 75, _ => hOO 75 (by kernel_rfl)
      | 76, _ => hOO 76 (by kernel_rfl)
      | 77, _ => hOO 77 (by kernel_rfl)
      | 78, _ => hOO 78 (by kernel_rfl)
      | 79, _ => hOO 79 (by kernel_rfl)
      | 80, _ => hOO 80 (by kernel_rfl)
      | 81, _ => hOO 81 (by kernel_rfl)
      | 82, _ => hOO 82 (by kernel_rfl)
      | 83, _ => hOO 83 (by kernel_rfl)
      | 84, _ => hOO 84 (by kernel_rfl)
      | 85, _ => hOO 85 (by kernel_rfl)
      | 86, _ => hOO 86 (by kernel_rfl)
      | 87, _ => hOO 87 (by kernel_rfl)
      | 88, _ => hOO 88 (by kernel_rfl)
      | 89, _ => hOO 89 (by kernel_rfl)
      | 90, _ => hOO 90 (by kernel_rfl)
      | 91, _ => hOO 91 (by kernel_rfl)
      | 92, _ => hOO 92 (by kernel_rfl)
      | 93, _ => hOO 93 (by kernel_rfl)
      | 94, _ => hOO 94 (by kernel_rfl)
      | 95, _ => hOO 95 (by kernel_rfl)
      | 96, _ => hOO 96 (by kernel_rfl)
      | 97, _ => hOO 97 (by kernel_rfl)
      | 98, _ => hOO 98 (by kernel_rfl)
      | 99, _ => hOO 99 (by kernel_rfl)
      | 100, _ => hOO 100 (by kernel_rfl)
      | 101, _ => hOO 101 (by kernel_rfl)
      | 102, _ => hOO 102 (by kernel_rfl)
      | 103, _ => hOO 103 (by kernel_rfl)
      | 104, _ => hOO 104 (by kernel_rfl)
      | 105, _ => hOO 105 (by kernel_rfl)
      | 106, _ => hOO 106 (by kernel_rfl)
      | 107, _ => hOO 107 (by kernel_rfl)
      | 108, _ => hOO 108 (by kernel_rfl)
      | 109, _ => hOO 109 (by kernel_rfl)
      | 110, _ => hOO 110 (by kernel_rfl)
      | 111, _ => hOO 111 (by kernel_rfl)
      | 112, _ => hOO 112 (by kernel_rfl)
      | 113, _ => hOO 113 (by kernel_rfl)
      | 114, _ => hOO 114 (by kernel_rfl)
      | 115, _ => hOO 115 (by kernel_rfl)
      | 116, _ => hOO 116 (by kernel_rfl)
      | 117, _ => hOO 117 (by kernel_rfl)
      | 118, _ => hOO 118 (by kernel_rfl)
      | 119, _ => hOO 119 (by kernel_rfl)
      | 120, _ => hOO 120 (by kernel_rfl)
      | 121, _ => hOO 121 (by kernel_rfl)
      | 122, _ => hOO 122 (by kernel_rfl)
      | 123, _ => hOO 123 (by kernel_rfl)
      | 124, _ => hOO 124 (by kernel_rfl)
      | 125, _ => hOO 125 (by kernel_rfl)
      | (k + 126), h => absurd h (by simp))
    have A2 : Below W.heap.size W w2 := Below.trans (show Below W.heap.size W w1.drew from by (repeat (first | (with_reducible exact Below.refl _ _) | (with_reducible assumption) | (with_reducible refine Near.up _ ?_) | (with_reducible refine Below.drew ?_) | (with_reducible refine below_alloc_on ?_ _) | (with_reducible refine below_set_on ?_ (by first | (simp; done) | (simp; omega) | omega) _)))) (hE.mono hBW)
    have P2 := box_in P1.drew hE hp
    have Y0 : Box w2 q0 #[.float .f64 ra, .float .f64 rt, .float .f64 rb, .float .f64 re, .bool rd, .int .i64 rk, .bool rz] := Y0
    have Y1 : Box w2 q1 #[.float .f64 ra, .float .f64 rt, .float .f64 rb, .float .f64 re, .bool rd, .int .i64 rk, .bool rz] := Y1
    have Y2 : Box w2 q2 #[.float .f64 ra, .float .f64 rt, .float .f64 rb, .float .f64 re, .bool rd, .int .i64 rk, .bool rz] := Y2
    have Y3 : Box w2 q3 #[.float .f64 ra, .float .f64 rt, .float .f64 rb, .float .f64 re, .bool rd, .int .i64 rk, .bool rz] := Y3
    have Y4 : Box w2 q4 #[.float .f64 ra, .float .f64 rt, .float .f64 rb, .float .f64 re, .bool rd, .int .i64 rk, .bool rz] := Y4
    clear hOO hDD hO hE f0 f1 f2 f3 f4 e0 e1 e2 e3 e4 A1 P1 R1 hr
    have dq : ¬ q1 = q0 ∧ ¬ q2 = q0 ∧ ¬ q3 = q0 ∧ ¬ q4 = q0 ∧ ¬ q0 = q1 ∧ ¬ q2 = q1 ∧ ¬ q3 = q1 ∧ ¬ q4 = q1 ∧ ¬ q0 = q2 ∧ ¬ q1 = q2 ∧ ¬ q3 = q2 ∧ ¬ q4 = q2 ∧ ¬ q0 = q3 ∧ ¬ q1 = q3 ∧ ¬ q2 = q3 ∧ ¬ q4 = q3 ∧ ¬ q0 = q4 ∧ ¬ q1 = q4 ∧ ¬ q2 = q4 ∧ ¬ q3 = q4 := by omega
    obtain ⟨d0, d1, d2, d3, d4, d5, d6, d7, d8, d9, d10, d11, d12, d13, d14, d15, d16, d17, d18, d19⟩ := dq
    have hqB : W.heap.size ≤ q0 ∧ W.heap.size ≤ q1 ∧ W.heap.size ≤ q2 ∧ W.heap.size ≤ q3 ∧ W.heap.size ≤ q4 ∧ p ≠ q0 ∧ p ≠ q1 ∧ p ≠ q2 ∧ p ≠ q3 ∧ p ≠ q4 := by omega
    obtain ⟨oq0, oq1, oq2, oq3, oq4, np0, np1, np2, np3, np4⟩ := hqB
    clear m01 m02 m03 m04 m10 m12 m13 m14 m20 m21 m23 m24 m30 m31 m32 m34 m40 m41 m42 m43 b0 b1 b2 b3 b4 hp hBW hB0
    have lq0 := Y0.1
    have cq0 := Y0.2.1
    have fq0 := Y0.2.2
    have lq1 := Y1.1
    have cq1 := Y1.2.1
    have fq1 := Y1.2.2
    have lq2 := Y2.1
    have cq2 := Y2.2.1
    have fq2 := Y2.2.2
    have lq3 := Y3.1
    have cq3 := Y3.2.1
    have fq3 := Y3.2.2
    have lq4 := Y4.1
    have cq4 := Y4.2.1
    have fq4 := Y4.2.2
    go_upto_region 4 with (fail)
    refine at_world (fun w => Below W.heap.size W w ∧ Box w p #[.int .i64 VA, .int .i64 VT, .int .i64 VB, .int .i64 VE, .bool rd, .int .i64 VK, .bool rz, .int .i64 VO] ∧ Box w q0 #[.float .f64 wx, .float .f64 rt, .float .f64 rb, .float .f64 re, .bool rd, .int .i64 rk, .bool rz] ∧ Box w q1 #[.float .f64 ra, .float .f64 wx, .float .f64 rb, .float .f64 re, .bool rd, .int .i64 rk, .bool rz] ∧ Box w q2 #[.float .f64 ra, .float .f64 rt, .float .f64 wx, .float .f64 re, .bool rd, .int .i64 rk, .bool rz] ∧ Box w q3 #[.float .f64 ra, .float .f64 rt, .float .f64 rb, .float .f64 wx, .bool rd, .int .i64 rk, .bool rz] ∧ Box w q4 #[.float .f64 ra, .float .f64 rt, .float .f64 rb, .float .f64 re, .bool rd, .int .i64 wy, .bool rz]) ⟨by (repeat (first | (with_reducible exact Below.refl _ _) | (with_reducible assumption) | (with_reducible refine Near.up _ ?_) | (with_reducible refine Below.drew ?_) | (with_reducible refine below_alloc_on ?_ _) | (with_reducible refine below_set_on ?_ (by first | (simp; done) | (simp; omega) | omega) _))), by (repeat (first | (with_reducible assumption) | (with_reducible exact box_new _ _ _) | ((with_reducible apply box_at); (first | (with_reducible rfl) | (simp <;> omega))) | (with_reducible apply Box.drew) | (with_reducible apply Box.drewN) | (with_reducible apply Box.near) | (with_reducible apply Box.alloc) | ((with_reducible apply box_far); (first | assumption | omega | (simp <;> omega))) | ((with_reducible apply Box.one_set); (with_reducible assumption)) | ((with_reducible apply Box.two_set); (with_reducible assumption)) | ((with_reducible apply Box.three_set); (with_reducible assumption)) | (with_reducible apply Box.set) | (simp only [List.size_toArray, List.length_cons, List.length_nil, Array.size_setIfInBounds] <;> omega))), box_cast (by (repeat (first | (with_reducible assumption) | (with_reducible exact box_new _ _ _) | ((with_reducible apply box_at); (first | (with_reducible rfl) | (simp <;> omega))) | (with_reducible apply Box.drew) | (with_reducible apply Box.drewN) | (with_reducible apply Box.near) | (with_reducible apply Box.alloc) | ((with_reducible apply box_far); (first | assumption | omega | (simp <;> omega))) | ((with_reducible apply Box.one_set); (with_reducible assumption)) | ((with_reducible apply Box.two_set); (with_reducible assumption)) | ((with_reducible apply Box.three_set); (with_reducible assumption)) | (with_reducible apply Box.set) | (simp only [List.size_toArray, List.length_cons, List.length_nil, Array.size_setIfInBounds] <;> omega)))) (by first | rfl | simp), box_cast (by (repeat (first | (with_reducible assumption) | (with_reducible exact box_new _ _ _) | ((with_reducible apply box_at); (first | (with_reducible rfl) | (simp <;> omega))) | (with_reducible apply Box.drew) | (with_reducible apply Box.drewN) | (with_reducible apply Box.near) | (with_reducible apply Box.alloc) | ((with_reducible apply box_far); (first | assumption | omega | (simp <;> omega))) | ((with_reducible apply Box.one_set); (with_reducible assumption)) | ((with_reducible apply Box.two_set); (with_reducible assumption)) | ((with_reducible apply Box.three_set); (with_reducible assumption)) | (with_reducible apply Box.set) | (simp only [List.size_toArray, List.length_cons, List.length_nil, Array.size_setIfInBounds] <;> omega)))) (by first | rfl | simp), box_cast (by (repeat (first | (with_reducible assumption) | (with_reducible exact box_new _ _ _) | ((with_reducible apply box_at); (first | (with_reducible rfl) | (simp <;> omega))) | (with_reducible apply Box.drew) | (with_reducible apply Box.drewN) | (with_reducible apply Box.near) | (with_reducible apply Box.alloc) | ((with_reducible apply box_far); (first | assumption | omega | (simp <;> omega))) | ((with_reducible apply Box.one_set); (with_reducible assumption)) | ((with_reducible apply Box.two_set); (with_reducible assumption)) | ((with_reducible apply Box.three_set); (with_reducible assumption)) | (with_reducible apply Box.set) | (simp only [List.size_toArray, List.length_cons, List.length_nil, Array.size_setIfInBounds] <;> omega)))) (by first | rfl | simp), box_cast (by (repeat (first | (with_reducible assumption) | (with_reducible exact box_new _ _ _) | ((with_reducible apply box_at); (first | (with_reducible rfl) | (simp <;> omega))) | (with_reducible apply Box.drew) | (with_reducible apply Box.drewN) | (with_reducible apply Box.near) | (with_reducible apply Box.alloc) | ((with_reducible apply box_far); (first | assumption | omega | (simp <;> omega))) | ((with_reducible apply Box.one_set); (with_reducible assumption)) | ((with_reducible apply Box.two_set); (with_reducible assumption)) | ((with_reducible apply Box.three_set); (with_reducible assumption)) | (with_reducible apply Box.set) | (simp only [List.size_toArray, List.length_cons, List.length_nil, Array.size_setIfInBounds] <;> omega)))) (by first | rfl | simp), box_cast (by (repeat (first | (with_reducible assumption) | (with_reducible exact box_new _ _ _) | ((with_reducible apply box_at); (first | (with_reducible rfl) | (simp <;> omega))) | (with_reducible apply Box.drew) | (with_reducible apply Box.drewN) | (with_reducible apply Box.near) | (with_reducible apply Box.alloc) | ((with_reducible apply box_far); (first | assumption | omega | (simp <;> omega))) | ((with_reducible apply Box.one_set); (with_reducible assumption)) | ((with_reducible apply Box.two_set); (with_reducible assumption)) | ((with_reducible apply Box.three_set); (with_reducible assumption)) | (with_reducible apply Box.set) | (simp only [List.size_toArray, List.length_cons, List.length_nil, Array.size_setIfInBounds] <;> omega)))) (by first | rfl | simp)⟩ ?_
    clear lq0 lq1 lq2 lq3 lq4 cq0 cq1 cq2 cq3 cq4 fq0 fq1 fq2 fq3 fq4 Y0 Y1 Y2 Y3 Y4 A2 P2 d0 d1 d2 d3 d4 d5 d6 d7 d8 d9 d10 d11 d12 d13 d14 d15 d16 d17 d18 d19 np0 np1 np2 np3 np4
    rintro w3 ⟨A3, P3, Q0, Q1, Q2, Q3, Q4⟩
    obtain ⟨B, hBe⟩ : ∃ B, w3.heap.size = B := ⟨_, rfl⟩
    have hB0 : B ≤ w3.drew.heap.size := Nat.le_of_eq hBe.symm
    have hp : p < B := by rw [← hBe]; exact P3.1
    have l0 : q0 < B := by rw [← hBe]; exact Q0.1
    have l1 : q1 < B := by rw [← hBe]; exact Q1.1
    have l2 : q2 < B := by rw [← hBe]; exact Q2.1
    have l3 : q3 < B := by rw [← hBe]; exact Q3.1
    have l4 : q4 < B := by rw [← hBe]; exact Q4.1
    have hBW : W.heap.size ≤ B := by omega
    clear hBe
    have HQ0 : Box w3.drew q0 #[.float .f64 wx, .float .f64 rt, .float .f64 rb, .float .f64 re, .bool rd, .int .i64 rk, .bool rz] := Q0
    have HQ1 : Box w3.drew q1 #[.float .f64 ra, .float .f64 wx, .float .f64 rb, .float .f64 re, .bool rd, .int .i64 rk, .bool rz] := Q1
    have HQ2 : Box w3.drew q2 #[.float .f64 ra, .float .f64 rt, .float .f64 wx, .float .f64 re, .bool rd, .int .i64 rk, .bool rz] := Q2
    have HQ3 : Box w3.drew q3 #[.float .f64 ra, .float .f64 rt, .float .f64 rb, .float .f64 wx, .bool rd, .int .i64 rk, .bool rz] := Q3
    have HQ4 : Box w3.drew q4 #[.float .f64 ra, .float .f64 rt, .float .f64 rb, .float .f64 re, .bool rd, .int .i64 wy, .bool rz] := Q4
    obtain ⟨cs, hcs⟩ : ∃ cs : Nat → Value, (fun i => match i with
        | 0 => .agg #[.float .f64 wx, .float .f64 rt, .float .f64 rb, .float .f64 re, .bool rd, .int .i64 rk, .bool rz]
        | 1 => .agg #[.int .i64 X0, .int .i64 VT, .int .i64 VB, .int .i64 VE, .bool rd, .int .i64 VK, .bool rz, .int .i64 O0]
        | 2 => .agg #[.float .f64 ra, .float .f64 wx, .float .f64 rb, .float .f64 re, .bool rd, .int .i64 rk, .bool rz]
        | 3 => .agg #[.int .i64 VA, .int .i64 X1, .int .i64 VB, .int .i64 VE, .bool rd, .int .i64 VK, .bool rz, .int .i64 O1]
        | 4 => .agg #[.float .f64 ra, .float .f64 rt, .float .f64 wx, .float .f64 re, .bool rd, .int .i64 rk, .bool rz]
        | 5 => .agg #[.int .i64 VA, .int .i64 VT, .int .i64 X2, .int .i64 VE, .bool rd, .int .i64 VK, .bool rz, .int .i64 O2]
        | 6 => .agg #[.float .f64 ra, .float .f64 rt, .float .f64 rb, .float .f64 wx, .bool rd, .int .i64 rk, .bool rz]
        | 7 => .agg #[.int .i64 VA, .int .i64 VT, .int .i64 VB, .int .i64 X3, .bool rd, .int .i64 VK, .bool rz, .int .i64 O3]
        | 8 => .agg #[.float .f64 ra, .float .f64 rt, .float .f64 rb, .float .f64 re, .bool rd, .int .i64 wy, .bool rz]
        | 9 => .agg #[.int .i64 VA, .int .i64 VT, .int .i64 VB, .int .i64 VE, .bool rd, .int .i64 X4, .bool rz, .int .i64 O4]
        | _ => undef) = cs := ⟨_, rfl⟩
    have e0 : cs 0 = .agg #[.float .f64 wx, .float .f64 rt, .float .f64 rb, .float .f64 re, .bool rd, .int .i64 rk, .bool rz] := by rw [← hcs]; rfl
    have e1 : cs 1 = .agg #[.int .i64 X0, .int .i64 VT, .int .i64 VB, .int .i64 VE, .bool rd, .int .i64 VK, .bool rz, .int .i64 O0] := by rw [← hcs]; rfl
    have e2 : cs 2 = .agg #[.float .f64 ra, .float .f64 wx, .float .f64 rb, .float .f64 re, .bool rd, .int .i64 rk, .bool rz] := by rw [← hcs]; rfl
    have e3 : cs 3 = .agg #[.int .i64 VA, .int .i64 X1, .int .i64 VB, .int .i64 VE, .bool rd, .int .i64 VK, .bool rz, .int .i64 O1] := by rw [← hcs]; rfl
    have e4 : cs 4 = .agg #[.float .f64 ra, .float .f64 rt, .float .f64 wx, .float .f64 re, .bool rd, .int .i64 rk, .bool rz] := by rw [← hcs]; rfl
    have e5 : cs 5 = .agg #[.int .i64 VA, .int .i64 VT, .int .i64 X2, .int .i64 VE, .bool rd, .int .i64 VK, .bool rz, .int .i64 O2] := by rw [← hcs]; rfl
    have e6 : cs 6 = .agg #[.float .f64 ra, .float .f64 rt, .float .f64 rb, .float .f64 wx, .bool rd, .int .i64 rk, .bool rz] := by rw [← hcs]; rfl
    have e7 : cs 7 = .agg #[.int .i64 VA, .int .i64 VT, .int .i64 VB, .int .i64 X3, .bool rd, .int .i64 VK, .bool rz, .int .i64 O3] := by rw [← hcs]; rfl
    have e8 : cs 8 = .agg #[.float .f64 ra, .float .f64 rt, .float .f64 rb, .float .f64 re, .bool rd, .int .i64 wy, .bool rz] := by rw [← hcs]; rfl
    have e9 : cs 9 = .agg #[.int .i64 VA, .int .i64 VT, .int .i64 VB, .int .i64 VE, .bool rd, .int .i64 X4, .bool rz, .int .i64 O4] := by rw [← hcs]; rfl
    clear hcs
    refine wp_region_looseS 20 126 (by as_aux_lemma => kernel_rfl) (by as_aux_lemma => kernel_rfl) rfl (fun w w' => Below B w w') (fun w => Below.refl _ _) (fun a b c h g => Below.trans h g)
      (looseD (fun i => if 10 ≤ i then some fun _ _ => True else none) cs)
      (fun L V w => Blks 5 B (fun _ => #[.int .i64 0, .int .i64 0, .int .i64 0, .int .i64 0, .bool false, .int .i64 0, .bool false, .int .i64 0]) (fun i => match i with | 0 => #[.int .i64 X0, .int .i64 VT, .int .i64 VB, .int .i64 VE, .bool rd, .int .i64 VK, .bool rz, .int .i64 O0] | 1 => #[.int .i64 VA, .int .i64 X1, .int .i64 VB, .int .i64 VE, .bool rd, .int .i64 VK, .bool rz, .int .i64 O1] | 2 => #[.int .i64 VA, .int .i64 VT, .int .i64 X2, .int .i64 VE, .bool rd, .int .i64 VK, .bool rz, .int .i64 O2] | 3 => #[.int .i64 VA, .int .i64 VT, .int .i64 VB, .int .i64 X3, .bool rd, .int .i64 VK, .bool rz, .int .i64 O3] | 4 => #[.int .i64 VA, .int .i64 VT, .int .i64 VB, .int .i64 VE, .bool rd, .int .i64 X4, .bool rz, .int .i64 O4] | _ => #[]) (fun i => L (10 + i)) (fun i => L (15 + i)) (fun i => V (10 + i)) w)
      (looseD_stable ?_) (fun L L' V V' w hl hv h => h.congr (fun i hi => (hl _).symm) (fun i hi => (hl _).symm) (fun i hi ha => by match i, hi with | 0, _ => exact (hv 10 ha (by decide +kernel)).symm | 1, _ => exact (hv 11 ha (by decide +kernel)).symm | 2, _ => exact (hv 12 ha (by decide +kernel)).symm | 3, _ => exact (hv 13 ha (by decide +kernel)).symm | 4, _ => exact (hv 14 ha (by decide +kernel)).symm)) (Blks.none (fun _ _ => rfl) (fun _ _ => rfl)) ?_ ?_
    · intro i p hp v u u' h hE
      split at hp
      · cases hp; trivial
      · cases hp
    · simp only [List.take_succ_cons, List.take_zero]
      refine looseSAll_cons (k := 1) rfl (fun a u L hE hev hkn hLi hG => ?_) ?_
      · have kc : ∀ c, a.eval (.const c) = c := fun _ => rfl
        have kf : ∀ f, a.eval (.func f) = .func (.func f) #[] #[] := fun _ => rfl
        have t8 : a.eval (.tmp 8) = .pointer (some ⟨q0, 0, none⟩) := hev 8 (by kernel_rfl)
        have cr := (box_in HQ0 hE l0).2.1
        exact loose_val rfl (v := .agg #[.float .f64 wx, .float .f64 rt, .float .f64 rb, .float .f64 re, .bool rd, .int .i64 rk, .bool rz]) (by generalize a.eval = ev at *; simp [go_sem, kc, kf, t8, cr]) ⟨Below.refl _ _, e0.symm, hG.congr (fun i hi => if_neg (by omega)) (fun i hi => if_neg (by omega)) (fun i hi _ => if_neg (by omega))⟩
      refine looseSAll_cons (k := 2) rfl (fun a u L hE hev hkn hLi hG => ?_) ?_
      · have kc : ∀ c, a.eval (.const c) = c := fun _ => rfl
        have kf : ∀ f, a.eval (.func f) = .func (.func f) #[] #[] := fun _ => rfl
        have t35 : a.eval (.tmp 35) = .agg #[.float .f64 wx, .float .f64 rt, .float .f64 rb, .float .f64 re, .bool rd, .int .i64 rk, .bool rz] := ((hkn 0 (by kernel_rfl)).2 (by decide +kernel) : a.eval (.tmp 35) = cs 0).trans e0
        exact loose_call rfl (by generalize a.eval = ev at *; simp [go_sem, kc, kf, t35]) ((H0.out u).mono fun e u' h => ⟨_, h.1, h.2.mono (Nat.le_trans hB0 hE.size), e1.symm, (hG.call h.2).congr (fun i hi => if_neg (by omega)) (fun i hi => if_neg (by omega)) (fun i hi _ => if_neg (by omega))⟩)
      refine looseSAll_cons (k := 3) rfl (fun a u L hE hev hkn hLi hG => ?_) ?_
      · have kc : ∀ c, a.eval (.const c) = c := fun _ => rfl
        have kf : ∀ f, a.eval (.func f) = .func (.func f) #[] #[] := fun _ => rfl
        have t9 : a.eval (.tmp 9) = .pointer (some ⟨q1, 0, none⟩) := hev 9 (by kernel_rfl)
        have cr := (box_in HQ1 hE l1).2.1
        exact loose_val rfl (v := .agg #[.float .f64 ra, .float .f64 wx, .float .f64 rb, .float .f64 re, .bool rd, .int .i64 rk, .bool rz]) (by generalize a.eval = ev at *; simp [go_sem, kc, kf, t9, cr]) ⟨Below.refl _ _, e2.symm, hG.congr (fun i hi => if_neg (by omega)) (fun i hi => if_neg (by omega)) (fun i hi _ => if_neg (by omega))⟩
      refine looseSAll_cons (k := 4) rfl (fun a u L hE hev hkn hLi hG => ?_) ?_
      · have kc : ∀ c, a.eval (.const c) = c := fun _ => rfl
        have kf : ∀ f, a.eval (.func f) = .func (.func f) #[] #[] := fun _ => rfl
        have t37 : a.eval (.tmp 37) = .agg #[.float .f64 ra, .float .f64 wx, .float .f64 rb, .float .f64 re, .bool rd, .int .i64 rk, .bool rz] := ((hkn 2 (by kernel_rfl)).2 (by decide +kernel) : a.eval (.tmp 37) = cs 2).trans e2
        exact loose_call rfl (by generalize a.eval = ev at *; simp [go_sem, kc, kf, t37]) ((H1.out u).mono fun e u' h => ⟨_, h.1, h.2.mono (Nat.le_trans hB0 hE.size), e3.symm, (hG.call h.2).congr (fun i hi => if_neg (by omega)) (fun i hi => if_neg (by omega)) (fun i hi _ => if_neg (by omega))⟩)
      refine looseSAll_cons (k := 5) rfl (fun a u L hE hev hkn hLi hG => ?_) ?_
      · have kc : ∀ c, a.eval (.const c) = c := fun _ => rfl
        have kf : ∀ f, a.eval (.func f) = .func (.func f) #[] #[] := fun _ => rfl
        have t10 : a.eval (.tmp 10) = .pointer (some ⟨q2, 0, none⟩) := hev 10 (by kernel_rfl)
        have cr := (box_in HQ2 hE l2).2.1
        exact loose_val rfl (v := .agg #[.float .f64 ra, .float .f64 rt, .float .f64 wx, .float .f64 re, .bool rd, .int .i64 rk, .bool rz]) (by generalize a.eval = ev at *; simp [go_sem, kc, kf, t10, cr]) ⟨Below.refl _ _, e4.symm, hG.congr (fun i hi => if_neg (by omega)) (fun i hi => if_neg (by omega)) (fun i hi _ => if_neg (by omega))⟩
      refine looseSAll_cons (k := 6) rfl (fun a u L hE hev hkn hLi hG => ?_) ?_
      · have kc : ∀ c, a.eval (.const c) = c := fun _ => rfl
        have kf : ∀ f, a.eval (.func f) = .func (.func f) #[] #[] := fun _ => rfl
        have t39 : a.eval (.tmp 39) = .agg #[.float .f64 ra, .float .f64 rt, .float .f64 wx, .float .f64 re, .bool rd, .int .i64 rk, .bool rz] := ((hkn 4 (by kernel_rfl)).2 (by decide +kernel) : a.eval (.tmp 39) = cs 4).trans e4
        exact loose_call rfl (by generalize a.eval = ev at *; simp [go_sem, kc, kf, t39]) ((H2.out u).mono fun e u' h => ⟨_, h.1, h.2.mono (Nat.le_trans hB0 hE.size), e5.symm, (hG.call h.2).congr (fun i hi => if_neg (by omega)) (fun i hi => if_neg (by omega)) (fun i hi _ => if_neg (by omega))⟩)
      refine looseSAll_cons (k := 7) rfl (fun a u L hE hev hkn hLi hG => ?_) ?_
      · have kc : ∀ c, a.eval (.const c) = c := fun _ => rfl
        have kf : ∀ f, a.eval (.func f) = .func (.func f) #[] #[] := fun _ => rfl
        have t11 : a.eval (.tmp 11) = .pointer (some ⟨q3, 0, none⟩) := hev 11 (by kernel_rfl)
        have cr := (box_in HQ3 hE l3).2.1
        exact loose_val rfl (v := .agg #[.float .f64 ra, .float .f64 rt, .float .f64 rb, .float .f64 wx, .bool rd, .int .i64 rk, .bool rz]) (by generalize a.eval = ev at *; simp [go_sem, kc, kf, t11, cr]) ⟨Below.refl _ _, e6.symm, hG.congr (fun i hi => if_neg (by omega)) (fun i hi => if_neg (by omega)) (fun i hi _ => if_neg (by omega))⟩
      refine looseSAll_cons (k := 8) rfl (fun a u L hE hev hkn hLi hG => ?_) ?_
      · have kc : ∀ c, a.eval (.const c) = c := fun _ => rfl
        have kf : ∀ f, a.eval (.func f) = .func (.func f) #[] #[] := fun _ => rfl
        have t41 : a.eval (.tmp 41) = .agg #[.float .f64 ra, .float .f64 rt, .float .f64 rb, .float .f64 wx, .bool rd, .int .i64 rk, .bool rz] := ((hkn 6 (by kernel_rfl)).2 (by decide +kernel) : a.eval (.tmp 41) = cs 6).trans e6
        exact loose_call rfl (by generalize a.eval = ev at *; simp [go_sem, kc, kf, t41]) ((H3.out u).mono fun e u' h => ⟨_, h.1, h.2.mono (Nat.le_trans hB0 hE.size), e7.symm, (hG.call h.2).congr (fun i hi => if_neg (by omega)) (fun i hi => if_neg (by omega)) (fun i hi _ => if_neg (by omega))⟩)
      refine looseSAll_cons (k := 9) rfl (fun a u L hE hev hkn hLi hG => ?_) ?_
      · have kc : ∀ c, a.eval (.const c) = c := fun _ => rfl
        have kf : ∀ f, a.eval (.func f) = .func (.func f) #[] #[] := fun _ => rfl
        have t12 : a.eval (.tmp 12) = .pointer (some ⟨q4, 0, none⟩) := hev 12 (by kernel_rfl)
        have cr := (box_in HQ4 hE l4).2.1
        exact loose_val rfl (v := .agg #[.float .f64 ra, .float .f64 rt, .float .f64 rb, .float .f64 re, .bool rd, .int .i64 wy, .bool rz]) (by generalize a.eval = ev at *; simp [go_sem, kc, kf, t12, cr]) ⟨Below.refl _ _, e8.symm, hG.congr (fun i hi => if_neg (by omega)) (fun i hi => if_neg (by omega)) (fun i hi _ => if_neg (by omega))⟩
      refine looseSAll_cons (k := 10) rfl (fun a u L hE hev hkn hLi hG => ?_) ?_
      · have kc : ∀ c, a.eval (.const c) = c := fun _ => rfl
        have kf : ∀ f, a.eval (.func f) = .func (.func f) #[] #[] := fun _ => rfl
        have t43 : a.eval (.tmp 43) = .agg #[.float .f64 ra, .float .f64 rt, .float .f64 rb, .float .f64 re, .bool rd, .int .i64 wy, .bool rz] := ((hkn 8 (by kernel_rfl)).2 (by decide +kernel) : a.eval (.tmp 43) = cs 8).trans e8
        exact loose_call rfl (by generalize a.eval = ev at *; simp [go_sem, kc, kf, t43]) ((H4.out u).mono fun e u' h => ⟨_, h.1, h.2.mono (Nat.le_trans hB0 hE.size), e9.symm, (hG.call h.2).congr (fun i hi => if_neg (by omega)) (fun i hi => if_neg (by omega)) (fun i hi _ => if_neg (by omega))⟩)
      refine looseSAll_cons (k := 11) rfl (fun a u L hE hev hkn hLi hG => ?_) ?_
      · have kc : ∀ c, a.eval (.const c) = c := fun _ => rfl
        have kf : ∀ f, a.eval (.func f) = .func (.func f) #[] #[] := fun _ => rfl
        have hB : B ≤ u.heap.size := Nat.le_trans hB0 hE.size
        exact loose_val rfl (v := .pointer (some ⟨u.heap.size, 0, none⟩)) (w' := u.alloc (.cells #[.int .i64 0, .int .i64 0, .int .i64 0, .int .i64 0, .bool false, .int .i64 0, .bool false, .int .i64 0] 40)) (by generalize a.eval = ev at *; simp [go_sem, kc, kf]) ⟨(Below.refl B u).alloc hB _, trivial, hG.alloc hB 40 0 hLi (fun i hi => upd (by omega) _ _) (fun i hi => if_neg (by omega)) (fun i hi => upd (by omega) _ _)⟩
      refine looseSAll_cons (k := 12) rfl (fun a u L hE hev hkn hLi hG => ?_) ?_
      · have kc : ∀ c, a.eval (.const c) = c := fun _ => rfl
        have kf : ∀ f, a.eval (.func f) = .func (.func f) #[] #[] := fun _ => rfl
        have hB : B ≤ u.heap.size := Nat.le_trans hB0 hE.size
        exact loose_val rfl (v := .pointer (some ⟨u.heap.size, 0, none⟩)) (w' := u.alloc (.cells #[.int .i64 0, .int .i64 0, .int .i64 0, .int .i64 0, .bool false, .int .i64 0, .bool false, .int .i64 0] 40)) (by generalize a.eval = ev at *; simp [go_sem, kc, kf]) ⟨(Below.refl B u).alloc hB _, trivial, hG.alloc hB 40 1 hLi (fun i hi => upd (by omega) _ _) (fun i hi => if_neg (by omega)) (fun i hi => upd (by omega) _ _)⟩
      refine looseSAll_cons (k := 13) rfl (fun a u L hE hev hkn hLi hG => ?_) ?_
      · have kc : ∀ c, a.eval (.const c) = c := fun _ => rfl
        have kf : ∀ f, a.eval (.func f) = .func (.func f) #[] #[] := fun _ => rfl
        have hB : B ≤ u.heap.size := Nat.le_trans hB0 hE.size
        exact loose_val rfl (v := .pointer (some ⟨u.heap.size, 0, none⟩)) (w' := u.alloc (.cells #[.int .i64 0, .int .i64 0, .int .i64 0, .int .i64 0, .bool false, .int .i64 0, .bool false, .int .i64 0] 40)) (by generalize a.eval = ev at *; simp [go_sem, kc, kf]) ⟨(Below.refl B u).alloc hB _, trivial, hG.alloc hB 40 2 hLi (fun i hi => upd (by omega) _ _) (fun i hi => if_neg (by omega)) (fun i hi => upd (by omega) _ _)⟩
      refine looseSAll_cons (k := 14) rfl (fun a u L hE hev hkn hLi hG => ?_) ?_
      · have kc : ∀ c, a.eval (.const c) = c := fun _ => rfl
        have kf : ∀ f, a.eval (.func f) = .func (.func f) #[] #[] := fun _ => rfl
        have hB : B ≤ u.heap.size := Nat.le_trans hB0 hE.size
        exact loose_val rfl (v := .pointer (some ⟨u.heap.size, 0, none⟩)) (w' := u.alloc (.cells #[.int .i64 0, .int .i64 0, .int .i64 0, .int .i64 0, .bool false, .int .i64 0, .bool false, .int .i64 0] 40)) (by generalize a.eval = ev at *; simp [go_sem, kc, kf]) ⟨(Below.refl B u).alloc hB _, trivial, hG.alloc hB 40 3 hLi (fun i hi => upd (by omega) _ _) (fun i hi => if_neg (by omega)) (fun i hi => upd (by omega) _ _)⟩
      refine looseSAll_cons (k := 15) rfl (fun a u L hE hev hkn hLi hG => ?_) ?_
      · have kc : ∀ c, a.eval (.const c) = c := fun _ => rfl
        have kf : ∀ f, a.eval (.func f) = .func (.func f) #[] #[] := fun _ => rfl
        have hB : B ≤ u.heap.size := Nat.le_trans hB0 hE.size
        exact loose_val rfl (v := .pointer (some ⟨u.heap.size, 0, none⟩)) (w' := u.alloc (.cells #[.int .i64 0, .int .i64 0, .int .i64 0, .int .i64 0, .bool false, .int .i64 0, .bool false, .int .i64 0] 40)) (by generalize a.eval = ev at *; simp [go_sem, kc, kf]) ⟨(Below.refl B u).alloc hB _, trivial, hG.alloc hB 40 4 hLi (fun i hi => upd (by omega) _ _) (fun i hi => if_neg (by omega)) (fun i hi => upd (by omega) _ _)⟩
      refine looseSAll_cons (k := 16) rfl (fun a u L hE hev hkn hLi hG => ?_) ?_
      · have kc : ∀ c, a.eval (.const c) = c := fun _ => rfl
        have kf : ∀ f, a.eval (.func f) = .func (.func f) #[] #[] := fun _ => rfl
        have hal := (hkn 10 (by kernel_rfl)).1
        have t36 : a.eval (.tmp 36) = .agg #[.int .i64 X0, .int .i64 VT, .int .i64 VB, .int .i64 VE, .bool rd, .int .i64 VK, .bool rz, .int .i64 O0] := ((hkn 1 (by kernel_rfl)).2 (by decide +kernel) : a.eval (.tmp 36) = cs 1).trans e1
        obtain ⟨g, hV, hb, hx, hput⟩ := hG.get 0 (by omega) hal hLi
        have t13 : a.eval (.tmp 13) = .pointer (some ⟨g, 0, none⟩) := hV
        have cg := hx.2.1
        have fg := hx.2.2
        have lg := hx.1
        refine loose_store rfl rfl (w' := (World.setCell (World.setCell (World.setCell (World.setCell (World.setCell (World.setCell (World.setCell (World.setCell u ⟨g, 0, none⟩ (.int .i64 X0)) ⟨g, 1, none⟩ (.int .i64 VT)) ⟨g, 2, none⟩ (.int .i64 VB)) ⟨g, 3, none⟩ (.int .i64 VE)) ⟨g, 4, none⟩ (.bool rd)) ⟨g, 5, none⟩ (.int .i64 VK)) ⟨g, 6, none⟩ (.bool rz)) ⟨g, 7, none⟩ (.int .i64 O0))) (by generalize a.eval = ev at *; simp [go_sem, kc, kf, t13, t36, cg, fg, lg]) ⟨((((((((Below.refl B u).setCell (p := ⟨g, 0, none⟩) hb (.int .i64 X0)).setCell (p := ⟨g, 1, none⟩) hb (.int .i64 VT)).setCell (p := ⟨g, 2, none⟩) hb (.int .i64 VB)).setCell (p := ⟨g, 3, none⟩) hb (.int .i64 VE)).setCell (p := ⟨g, 4, none⟩) hb (.bool rd)).setCell (p := ⟨g, 5, none⟩) hb (.int .i64 VK)).setCell (p := ⟨g, 6, none⟩) hb (.bool rz)).setCell (p := ⟨g, 7, none⟩) hb (.int .i64 O0), trivial, ?_⟩
        refine (hput _ (fun i => if i = 0 then true else L (15 + i)) (Box.eight_put hx (.int .i64 X0) (.int .i64 VT) (.int .i64 VB) (.int .i64 VE) (.bool rd) (.int .i64 VK) (.bool rz) (.int .i64 O0)) (fun g' cs h ne0 => ?_) (fun i hi => rfl)).congr (fun i hi => if_neg (by omega)) (fun i hi => upd (by omega) _ _) (fun i hi _ => if_neg (by omega))
        have ne : ¬ g = g' := fun e => h e.symm
        exact Box.far (Box.far (Box.far (Box.far (Box.far (Box.far (Box.far (Box.far (ne0) ne (.int .i64 X0)) ne (.int .i64 VT)) ne (.int .i64 VB)) ne (.int .i64 VE)) ne (.bool rd)) ne (.int .i64 VK)) ne (.bool rz)) ne (.int .i64 O0)
      refine looseSAll_cons (k := 17) rfl (fun a u L hE hev hkn hLi hG => ?_) ?_
      · have kc : ∀ c, a.eval (.const c) = c := fun _ => rfl
        have kf : ∀ f, a.eval (.func f) = .func (.func f) #[] #[] := fun _ => rfl
        have hal := (hkn 11 (by kernel_rfl)).1
        have t38 : a.eval (.tmp 38) = .agg #[.int .i64 VA, .int .i64 X1, .int .i64 VB, .int .i64 VE, .bool rd, .int .i64 VK, .bool rz, .int .i64 O1] := ((hkn 3 (by kernel_rfl)).2 (by decide +kernel) : a.eval (.tmp 38) = cs 3).trans e3
        obtain ⟨g, hV, hb, hx, hput⟩ := hG.get 1 (by omega) hal hLi
        have t14 : a.eval (.tmp 14) = .pointer (some ⟨g, 0, none⟩) := hV
        have cg := hx.2.1
        have fg := hx.2.2
        have lg := hx.1
        refine loose_store rfl rfl (w' := (World.setCell (World.setCell (World.setCell (World.setCell (World.setCell (World.setCell (World.setCell (World.setCell u ⟨g, 0, none⟩ (.int .i64 VA)) ⟨g, 1, none⟩ (.int .i64 X1)) ⟨g, 2, none⟩ (.int .i64 VB)) ⟨g, 3, none⟩ (.int .i64 VE)) ⟨g, 4, none⟩ (.bool rd)) ⟨g, 5, none⟩ (.int .i64 VK)) ⟨g, 6, none⟩ (.bool rz)) ⟨g, 7, none⟩ (.int .i64 O1))) (by generalize a.eval = ev at *; simp [go_sem, kc, kf, t14, t38, cg, fg, lg]) ⟨((((((((Below.refl B u).setCell (p := ⟨g, 0, none⟩) hb (.int .i64 VA)).setCell (p := ⟨g, 1, none⟩) hb (.int .i64 X1)).setCell (p := ⟨g, 2, none⟩) hb (.int .i64 VB)).setCell (p := ⟨g, 3, none⟩) hb (.int .i64 VE)).setCell (p := ⟨g, 4, none⟩) hb (.bool rd)).setCell (p := ⟨g, 5, none⟩) hb (.int .i64 VK)).setCell (p := ⟨g, 6, none⟩) hb (.bool rz)).setCell (p := ⟨g, 7, none⟩) hb (.int .i64 O1), trivial, ?_⟩
        refine (hput _ (fun i => if i = 1 then true else L (15 + i)) (Box.eight_put hx (.int .i64 VA) (.int .i64 X1) (.int .i64 VB) (.int .i64 VE) (.bool rd) (.int .i64 VK) (.bool rz) (.int .i64 O1)) (fun g' cs h ne0 => ?_) (fun i hi => rfl)).congr (fun i hi => if_neg (by omega)) (fun i hi => upd (by omega) _ _) (fun i hi _ => if_neg (by omega))
        have ne : ¬ g = g' := fun e => h e.symm
        exact Box.far (Box.far (Box.far (Box.far (Box.far (Box.far (Box.far (Box.far (ne0) ne (.int .i64 VA)) ne (.int .i64 X1)) ne (.int .i64 VB)) ne (.int .i64 VE)) ne (.bool rd)) ne (.int .i64 VK)) ne (.bool rz)) ne (.int .i64 O1)
      refine looseSAll_cons (k := 18) rfl (fun a u L hE hev hkn hLi hG => ?_) ?_
      · have kc : ∀ c, a.eval (.const c) = c := fun _ => rfl
        have kf : ∀ f, a.eval (.func f) = .func (.func f) #[] #[] := fun _ => rfl
        have hal := (hkn 12 (by kernel_rfl)).1
        have t40 : a.eval (.tmp 40) = .agg #[.int .i64 VA, .int .i64 VT, .int .i64 X2, .int .i64 VE, .bool rd, .int .i64 VK, .bool rz, .int .i64 O2] := ((hkn 5 (by kernel_rfl)).2 (by decide +kernel) : a.eval (.tmp 40) = cs 5).trans e5
        obtain ⟨g, hV, hb, hx, hput⟩ := hG.get 2 (by omega) hal hLi
        have t15 : a.eval (.tmp 15) = .pointer (some ⟨g, 0, none⟩) := hV
        have cg := hx.2.1
        have fg := hx.2.2
        have lg := hx.1
        refine loose_store rfl rfl (w' := (World.setCell (World.setCell (World.setCell (World.setCell (World.setCell (World.setCell (World.setCell (World.setCell u ⟨g, 0, none⟩ (.int .i64 VA)) ⟨g, 1, none⟩ (.int .i64 VT)) ⟨g, 2, none⟩ (.int .i64 X2)) ⟨g, 3, none⟩ (.int .i64 VE)) ⟨g, 4, none⟩ (.bool rd)) ⟨g, 5, none⟩ (.int .i64 VK)) ⟨g, 6, none⟩ (.bool rz)) ⟨g, 7, none⟩ (.int .i64 O2))) (by generalize a.eval = ev at *; simp [go_sem, kc, kf, t15, t40, cg, fg, lg]) ⟨((((((((Below.refl B u).setCell (p := ⟨g, 0, none⟩) hb (.int .i64 VA)).setCell (p := ⟨g, 1, none⟩) hb (.int .i64 VT)).setCell (p := ⟨g, 2, none⟩) hb (.int .i64 X2)).setCell (p := ⟨g, 3, none⟩) hb (.int .i64 VE)).setCell (p := ⟨g, 4, none⟩) hb (.bool rd)).setCell (p := ⟨g, 5, none⟩) hb (.int .i64 VK)).setCell (p := ⟨g, 6, none⟩) hb (.bool rz)).setCell (p := ⟨g, 7, none⟩) hb (.int .i64 O2), trivial, ?_⟩
        refine (hput _ (fun i => if i = 2 then true else L (15 + i)) (Box.eight_put hx (.int .i64 VA) (.int .i64 VT) (.int .i64 X2) (.int .i64 VE) (.bool rd) (.int .i64 VK) (.bool rz) (.int .i64 O2)) (fun g' cs h ne0 => ?_) (fun i hi => rfl)).congr (fun i hi => if_neg (by omega)) (fun i hi => upd (by omega) _ _) (fun i hi _ => if_neg (by omega))
        have ne : ¬ g = g' := fun e => h e.symm
        exact Box.far (Box.far (Box.far (Box.far (Box.far (Box.far (Box.far (Box.far (ne0) ne (.int .i64 VA)) ne (.int .i64 VT)) ne (.int .i64 X2)) ne (.int .i64 VE)) ne (.bool rd)) ne (.int .i64 VK)) ne (.bool rz)) ne (.int .i64 O2)
      refine looseSAll_cons (k := 19) rfl (fun a u L hE hev hkn hLi hG => ?_) ?_
      · have kc : ∀ c, a.eval (.const c) = c := fun _ => rfl
        have kf : ∀ f, a.eval (.func f) = .func (.func f) #[] #[] := fun _ => rfl
        have hal := (hkn 13 (by kernel_rfl)).1
        have t42 : a.eval (.tmp 42) = .agg #[.int .i64 VA, .int .i64 VT, .int .i64 VB, .int .i64 X3, .bool rd, .int .i64 VK, .bool rz, .int .i64 O3] := ((hkn 7 (by kernel_rfl)).2 (by decide +kernel) : a.eval (.tmp 42) = cs 7).trans e7
        obtain ⟨g, hV, hb, hx, hput⟩ := hG.get 3 (by omega) hal hLi
        have t16 : a.eval (.tmp 16) = .pointer (some ⟨g, 0, none⟩) := hV
        have cg := hx.2.1
        have fg := hx.2.2
        have lg := hx.1
        refine loose_store rfl rfl (w' := (World.setCell (World.setCell (World.setCell (World.setCell (World.setCell (World.setCell (World.setCell (World.setCell u ⟨g, 0, none⟩ (.int .i64 VA)) ⟨g, 1, none⟩ (.int .i64 VT)) ⟨g, 2, none⟩ (.int .i64 VB)) ⟨g, 3, none⟩ (.int .i64 X3)) ⟨g, 4, none⟩ (.bool rd)) ⟨g, 5, none⟩ (.int .i64 VK)) ⟨g, 6, none⟩ (.bool rz)) ⟨g, 7, none⟩ (.int .i64 O3))) (by generalize a.eval = ev at *; simp [go_sem, kc, kf, t16, t42, cg, fg, lg]) ⟨((((((((Below.refl B u).setCell (p := ⟨g, 0, none⟩) hb (.int .i64 VA)).setCell (p := ⟨g, 1, none⟩) hb (.int .i64 VT)).setCell (p := ⟨g, 2, none⟩) hb (.int .i64 VB)).setCell (p := ⟨g, 3, none⟩) hb (.int .i64 X3)).setCell (p := ⟨g, 4, none⟩) hb (.bool rd)).setCell (p := ⟨g, 5, none⟩) hb (.int .i64 VK)).setCell (p := ⟨g, 6, none⟩) hb (.bool rz)).setCell (p := ⟨g, 7, none⟩) hb (.int .i64 O3), trivial, ?_⟩
        refine (hput _ (fun i => if i = 3 then true else L (15 + i)) (Box.eight_put hx (.int .i64 VA) (.int .i64 VT) (.int .i64 VB) (.int .i64 X3) (.bool rd) (.int .i64 VK) (.bool rz) (.int .i64 O3)) (fun g' cs h ne0 => ?_) (fun i hi => rfl)).congr (fun i hi => if_neg (by omega)) (fun i hi => upd (by omega) _ _) (fun i hi _ => if_neg (by omega))
        have ne : ¬ g = g' := fun e => h e.symm
        exact Box.far (Box.far (Box.far (Box.far (Box.far (Box.far (Box.far (Box.far (ne0) ne (.int .i64 VA)) ne (.int .i64 VT)) ne (.int .i64 VB)) ne (.int .i64 X3)) ne (.bool rd)) ne (.int .i64 VK)) ne (.bool rz)) ne (.int .i64 O3)
      refine looseSAll_cons (k := 20) rfl (fun a u L hE hev hkn hLi hG => ?_) ?_
      · have kc : ∀ c, a.eval (.const c) = c := fun _ => rfl
        have kf : ∀ f, a.eval (.func f) = .func (.func f) #[] #[] := fun _ => rfl
        have hal := (hkn 14 (by kernel_rfl)).1
        have t44 : a.eval (.tmp 44) = .agg #[.int .i64 VA, .int .i64 VT, .int .i64 VB, .int .i64 VE, .bool rd, .int .i64 X4, .bool rz, .int .i64 O4] := ((hkn 9 (by kernel_rfl)).2 (by decide +kernel) : a.eval (.tmp 44) = cs 9).trans e9
        obtain ⟨g, hV, hb, hx, hput⟩ := hG.get 4 (by omega) hal hLi
        have t17 : a.eval (.tmp 17) = .pointer (some ⟨g, 0, none⟩) := hV
        have cg := hx.2.1
        have fg := hx.2.2
        have lg := hx.1
        refine loose_store rfl rfl (w' := (World.setCell (World.setCell (World.setCell (World.setCell (World.setCell (World.setCell (World.setCell (World.setCell u ⟨g, 0, none⟩ (.int .i64 VA)) ⟨g, 1, none⟩ (.int .i64 VT)) ⟨g, 2, none⟩ (.int .i64 VB)) ⟨g, 3, none⟩ (.int .i64 VE)) ⟨g, 4, none⟩ (.bool rd)) ⟨g, 5, none⟩ (.int .i64 X4)) ⟨g, 6, none⟩ (.bool rz)) ⟨g, 7, none⟩ (.int .i64 O4))) (by generalize a.eval = ev at *; simp [go_sem, kc, kf, t17, t44, cg, fg, lg]) ⟨((((((((Below.refl B u).setCell (p := ⟨g, 0, none⟩) hb (.int .i64 VA)).setCell (p := ⟨g, 1, none⟩) hb (.int .i64 VT)).setCell (p := ⟨g, 2, none⟩) hb (.int .i64 VB)).setCell (p := ⟨g, 3, none⟩) hb (.int .i64 VE)).setCell (p := ⟨g, 4, none⟩) hb (.bool rd)).setCell (p := ⟨g, 5, none⟩) hb (.int .i64 X4)).setCell (p := ⟨g, 6, none⟩) hb (.bool rz)).setCell (p := ⟨g, 7, none⟩) hb (.int .i64 O4), trivial, ?_⟩
        refine (hput _ (fun i => if i = 4 then true else L (15 + i)) (Box.eight_put hx (.int .i64 VA) (.int .i64 VT) (.int .i64 VB) (.int .i64 VE) (.bool rd) (.int .i64 X4) (.bool rz) (.int .i64 O4)) (fun g' cs h ne0 => ?_) (fun i hi => rfl)).congr (fun i hi => if_neg (by omega)) (fun i hi => upd (by omega) _ _) (fun i hi _ => if_neg (by omega))
        have ne : ¬ g = g' := fun e => h e.symm
        exact Box.far (Box.far (Box.far (Box.far (Box.far (Box.far (Box.far (Box.far (ne0) ne (.int .i64 VA)) ne (.int .i64 VT)) ne (.int .i64 VB)) ne (.int .i64 VE)) ne (.bool rd)) ne (.int .i64 X4)) ne (.bool rz)) ne (.int .i64 O4)
      exact looseSAll_nil
    · intro a w2 hE hsz hdf hO hDD hG
      have hOO : ∀ s, isDst _ s = false → a.tmps.getD s undef = (List.toArray (.agg #[.float .f64 ra, .float .f64 rt, .float .f64 rb, .float .f64 re, .bool rd, .int .i64 rk, .bool rz] :: .float .f64 wx :: .int .i64 wy :: .pointer (some ⟨r, 0, none⟩) :: undef :: undef :: .bool false :: .pointer (some ⟨p, 0, none⟩) :: .pointer (some ⟨q0, 0, none⟩) :: .pointer (some ⟨q1, 0, none⟩) :: .pointer (some ⟨q2, 0, none⟩) :: .pointer (some ⟨q3, 0, none⟩) :: .pointer (some ⟨q4, 0, none⟩) :: undef :: undef :: undef :: undef :: undef :: .agg #[.float .f64 ra, .float .f64 rt, .float .f64 rb, .float .f64 re, .bool rd, .int .i64 rk, .bool rz] :: .agg #[.int .i64 VA, .int .i64 VT, .int .i64 VB, .int .i64 VE, .bool rd, .int .i64 VK, .bool rz, .int .i64 VO] :: .agg #[.float .f64 ra, .float .f64 rt, .float .f64 rb, .float .f64 re, .bool rd, .int .i64 rk, .bool rz] :: .agg #[.float .f64 ra, .float .f64 rt, .float .f64 rb, .float .f64 re, .bool rd, .int .i64 rk, .bool rz] :: .agg #[.float .f64 ra, .float .f64 rt, .float .f64 rb, .float .f64 re, .bool rd, .int .i64 rk, .bool rz] :: .agg #[.float .f64 ra, .float .f64 rt, .float .f64 rb, .float .f64 re, .bool rd, .int .i64 rk, .bool rz] :: .agg #[.float .f64 ra, .float .f64 rt, .float .f64 rb, .float .f64 re, .bool rd, .int .i64 rk, .bool rz] :: .float .f64 wx :: .float .f64 wx :: .float .f64 wx :: .float .f64 wx :: .int .i64 wy :: .pointer (some ⟨q0, 0, none⟩) :: .pointer (some ⟨q1, 1, none⟩) :: .pointer (some ⟨q2, 2, none⟩) :: .pointer (some ⟨q3, 3, none⟩) :: .pointer (some ⟨q4, 5, none⟩) :: undef :: undef :: undef :: undef :: undef :: undef :: undef :: undef :: undef :: undef :: undef :: undef :: undef :: undef :: undef :: undef :: undef :: undef :: undef :: undef :: undef :: undef :: undef :: undef :: undef :: undef :: undef :: undef :: undef :: undef :: undef :: undef :: undef :: undef :: undef :: undef :: undef :: undef :: undef :: undef :: undef :: undef :: undef :: undef :: undef :: undef :: undef :: undef :: undef :: undef :: undef :: undef :: undef :: undef :: undef :: undef :: undef :: undef :: undef :: undef :: undef :: undef :: undef :: undef :: undef :: undef :: undef :: undef :: undef :: undef :: undef :: undef :: undef :: undef :: undef :: undef :: undef :: undef :: undef :: undef :: undef :: undef :: undef :: undef :: undef :: undef :: undef :: undef :: undef :: undef :: undef :: []) : Array Value).getD s undef := fun s h => by rw [Array.getD_eq_getD_getElem?, Array.getD_eq_getD_getElem?, hO s h]
      obtain ⟨q, hq⟩ := hG.full (fun i hi => by simp; omega) (fun i hi => by simp; omega)
      obtain ⟨f0, b0, Y0, n0⟩ := hq 0 (by omega)
      obtain ⟨f1, b1, Y1, n1⟩ := hq 1 (by omega)
      obtain ⟨f2, b2, Y2, n2⟩ := hq 2 (by omega)
      obtain ⟨f3, b3, Y3, n3⟩ := hq 3 (by omega)
      obtain ⟨f4, b4, Y4, n4⟩ := hq 4 (by omega)
      replace f0 : a.tmps.getD 13 undef = .pointer (some ⟨q 0, 0, none⟩) := f0
      replace f1 : a.tmps.getD 14 undef = .pointer (some ⟨q 1, 0, none⟩) := f1
      replace f2 : a.tmps.getD 15 undef = .pointer (some ⟨q 2, 0, none⟩) := f2
      replace f3 : a.tmps.getD 16 undef = .pointer (some ⟨q 3, 0, none⟩) := f3
      replace f4 : a.tmps.getD 17 undef = .pointer (some ⟨q 4, 0, none⟩) := f4
      have m01 := n0 1 (by omega) (by omega)
      have m02 := n0 2 (by omega) (by omega)
      have m03 := n0 3 (by omega) (by omega)
      have m04 := n0 4 (by omega) (by omega)
      have m10 := n1 0 (by omega) (by omega)
      have m12 := n1 2 (by omega) (by omega)
      have m13 := n1 3 (by omega) (by omega)
      have m14 := n1 4 (by omega) (by omega)
      have m20 := n2 0 (by omega) (by omega)
      have m21 := n2 1 (by omega) (by omega)
      have m23 := n2 3 (by omega) (by omega)
      have m24 := n2 4 (by omega) (by omega)
      have m30 := n3 0 (by omega) (by omega)
      have m31 := n3 1 (by omega) (by omega)
      have m32 := n3 2 (by omega) (by omega)
      have m34 := n3 4 (by omega) (by omega)
      have m40 := n4 0 (by omega) (by omega)
      have m41 := n4 1 (by omega) (by omega)
      have m42 := n4 2 (by omega) (by omega)
      have m43 := n4 3 (by omega) (by omega)
      clear hq hG n0 n1 n2 n3 n4
      generalize q 0 = v0 at *
      generalize q 1 = v1 at *
      generalize q 2 = v2 at *
      generalize q 3 = v3 at *
      generalize q 4 = v4 at *
      obtain rfl := act_lit (ys := (List.toArray (.agg #[.float .f64 ra, .float .f64 rt, .float .f64 rb, .float .f64 re, .bool rd, .int .i64 rk, .bool rz] :: .float .f64 wx :: .int .i64 wy :: .pointer (some ⟨r, 0, none⟩) :: undef :: undef :: .bool false :: .pointer (some ⟨p, 0, none⟩) :: .pointer (some ⟨q0, 0, none⟩) :: .pointer (some ⟨q1, 0, none⟩) :: .pointer (some ⟨q2, 0, none⟩) :: .pointer (some ⟨q3, 0, none⟩) :: .pointer (some ⟨q4, 0, none⟩) :: .pointer (some ⟨v0, 0, none⟩) :: .pointer (some ⟨v1, 0, none⟩) :: .pointer (some ⟨v2, 0, none⟩) :: .pointer (some ⟨v3, 0, none⟩) :: .pointer (some ⟨v4, 0, none⟩) :: .agg #[.float .f64 ra, .float .f64 rt, .float .f64 rb, .float .f64 re, .bool rd, .int .i64 rk, .bool rz] :: .agg #[.int .i64 VA, .int .i64 VT, .int .i64 VB, .int .i64 VE, .bool rd, .int .i64 VK, .bool rz, .int .i64 VO] :: .agg #[.float .f64 ra, .float .f64 rt, .float .f64 rb, .float .f64 re, .bool rd, .int .i64 rk, .bool rz] :: .agg #[.float .f64 ra, .float .f64 rt, .float .f64 rb, .float .f64 re, .bool rd, .int .i64 rk, .bool rz] :: .agg #[.float .f64 ra, .float .f64 rt, .float .f64 rb, .float .f64 re, .bool rd, .int .i64 rk, .bool rz] :: .agg #[.float .f64 ra, .float .f64 rt, .float .f64 rb, .float .f64 re, .bool rd, .int .i64 rk, .bool rz] :: .agg #[.float .f64 ra, .float .f64 rt, .float .f64 rb, .float .f64 re, .bool rd, .int .i64 rk, .bool rz] :: .float .f64 wx :: .float .f64 wx :: .float .f64 wx :: .float .f64 wx :: .int .i64 wy :: .pointer (some ⟨q0, 0, none⟩) :: .pointer (some ⟨q1, 1, none⟩) :: .pointer (some ⟨q2, 2, none⟩) :: .pointer (some ⟨q3, 3, none⟩) :: .pointer (some ⟨q4, 5, none⟩) :: .agg #[.float .f64 wx, .float .f64 rt, .float .f64 rb, .float .f64 re, .bool rd, .int .i64 rk, .bool rz] :: .agg #[.int .i64 X0, .int .i64 VT, .int .i64 VB, .int .i64 VE, .bool rd, .int .i64 VK, .bool rz, .int .i64 O0] :: .agg #[.float .f64 ra, .float .f64 wx, .float .f64 rb, .float .f64 re, .bool rd, .int .i64 rk, .bool rz] :: .agg #[.int .i64 VA, .int .i64 X1, .int .i64 VB, .int .i64 VE, .bool rd, .int .i64 VK, .bool rz, .int .i64 O1] :: .agg #[.float .f64 ra, .float .f64 rt, .float .f64 wx, .float .f64 re, .bool rd, .int .i64 rk, .bool rz] :: .agg #[.int .i64 VA, .int .i64 VT, .int .i64 X2, .int .i64 VE, .bool rd, .int .i64 VK, .bool rz, .int .i64 O2] :: .agg #[.float .f64 ra, .float .f64 rt, .float .f64 rb, .float .f64 wx, .bool rd, .int .i64 rk, .bool rz] :: .agg #[.int .i64 VA, .int .i64 VT, .int .i64 VB, .int .i64 X3, .bool rd, .int .i64 VK, .bool rz, .int .i64 O3] :: .agg #[.float .f64 ra, .float .f64 rt, .float .f64 rb, .float .f64 re, .bool rd, .int .i64 wy, .bool rz] :: .agg #[.int .i64 VA, .int .i64 VT, .int .i64 VB, .int .i64 VE, .bool rd, .int .i64 X4, .bool rz, .int .i64 O4] :: undef :: undef :: undef :: undef :: undef :: undef :: undef :: undef :: undef :: undef :: undef :: undef :: undef :: undef :: undef :: undef :: undef :: undef :: undef :: undef :: undef :: undef :: undef :: undef :: undef :: undef :: undef :: undef :: undef :: undef :: undef :: undef :: undef :: undef :: undef :: undef :: undef :: undef :: undef :: undef :: undef :: undef :: undef :: undef :: undef :: undef :: undef :: undef :: undef :: undef :: undef :: undef :: undef :: undef :: undef :: undef :: undef :: undef :: undef :: undef :: undef :: undef :: undef :: undef :: undef :: undef :: undef :: undef :: undef :: undef :: undef :: undef :: undef :: undef :: undef :: undef :: undef :: undef :: undef :: undef :: undef :: []))) hdf hsz (fun s hs => match s, hs with
        | 0, _ => hOO 0 (by kernel_rfl)
        | 1, _ => hOO 1 (by kernel_rfl)
        | 2, _ => hOO 2 (by kernel_rfl)
        | 3, _ => hOO 3 (by kernel_rfl)
        | 4, _ => hOO 4 (by kernel_rfl)
        | 5, _ => hOO 5 (by kernel_rfl)
        | 6, _ => hOO 6 (by kernel_rfl)
        | 7, _ => hOO 7 (by kernel_rfl)
        | 8, _ => hOO 8 (by kernel_rfl)
        | 9, _ => hOO 9 (by kernel_rfl)
        | 10, _ => hOO 10 (by kernel_rfl)
        | 11, _ => hOO 11 (by kernel_rfl)
        | 12, _ => hOO 12 (by kernel_rfl)
        | 13, _ => f0
        | 14, _ => f1
        | 15, _ => f2
        | 16, _ => f3
        | 17, _ => f4
        | 18, _ => hOO 18 (by kernel_rfl)
        | 19, _ => hOO 19 (by kernel_rfl)
        | 20, _ => hOO 20 (by kernel_rfl)
        | 21, _ => hOO 21 (by kernel_rfl)
        | 22, _ => hOO 22 (by kernel_rfl)
        | 23, _ => hOO 23 (by kernel_rfl)
        | 24, _ => hOO 24 (by kernel_rfl)
        | 25, _ => hOO 25 (by kernel_rfl)
        | 26, _ => hOO 26 (by kernel_rfl)
        | 27, _ => hOO 27 (by kernel_rfl)
        | 28, _ => hOO 28 (by kernel_rfl)
        | 29, _ => hOO 29 (by kernel_rfl)
        | 30, _ => hOO 30 (by kernel_rfl)
        | 31, _ => hOO 31 (by kernel_rfl)
        | 32, _ => hOO 32 (by kernel_rfl)
        | 33, _ => hOO 33 (by kernel_rfl)
        | 34, _ => hOO 34 (by kernel_rfl)
        | 35, _ => ((hDD 0 (by omega) (by decide +kernel)) : a.tmps.getD 35 undef = cs 0).trans e0
        | 36, _ => ((hDD 1 (by omega) (by decide +kernel)) : a.tmps.getD 36 undef = cs 1).trans e1
        | 37, _ => ((hDD 2 (by omega) (by decide +kernel)) : a.tmps.getD 37 undef = cs 2).trans e2
        | 38, _ => ((hDD 3 (by omega) (by decide +kernel)) : a.tmps.getD 38 undef = cs 3).trans e3
        | 39, _ => ((hDD 4 (by omega) (by decide +kernel)) : a.tmps.getD 39 undef = cs 4).trans e4
        | 40, _ => ((hDD 5 (by omega) (by decide +kernel)) : a.tmps.getD 40 undef = cs 5).trans e5
        | 41, _ => ((hDD 6 (by omega) (by decide +kernel)) : a.tmps.getD 41 undef = cs 6).trans e6
        | 42, _ => ((hDD 7 (by omega) (by decide +kernel)) : a.tmps.getD 42 undef = cs 7).trans e7
        | 43, _ => ((hDD 8 (by omega) (by decide +kernel)) : a.tmps.getD 43 undef = cs 8).trans e8
        | 44, _ => ((hDD 9 (by omega) (by decide +kernel)) : a.tmps.getD 44 undef = cs 9).trans e9
        | 45, _ => hOO 45 (by kernel_rfl)
        | 46, _ => hOO 46 (by kernel_rfl)
        | 47, _ => hOO 47 (by kernel_rfl)
        | 48, _ => hOO 48 (by kernel_rfl)
        | 49, _ => hOO 49 (by kernel_rfl)
        | 50, _ => hOO 50 (by kernel_rfl)
        | 51, _ => hOO 51 (by kernel_rfl)
        | 52, _ => hOO 52 (by kernel_rfl)
        | 53, _ => hOO 53 (by kernel_rfl)
        | 54, _ => hOO 54 (by kernel_rfl)
        | 55, _ => hOO 55 (by kernel_rfl)
        | 56, _ => hOO 56 (by kernel_rfl)
        | 57, _ => hOO 57 (by kernel_rfl)
        | 58, _ => hOO 58 (by kernel_rfl)
        | 59, _ => hOO 59 (by kernel_rfl)
        | 60, _ => hOO 60 (by kernel_rfl)
        | 61, _ => hOO 61 (by kernel_rfl)
        | 62, _ => hOO 62 (by kernel_rfl)
        | 63, _ => hOO 63 (by kernel_rfl)
        | 64, _ => hOO 64 (by kernel_rfl)
        | 65, _ => hOO 65 (by kernel_rfl)
        | 66, _ => hOO 66 (by kernel_rfl)
        | 67, _ => hOO 67 (by kernel_rfl)
        | 68, _ => hOO 68 (by kernel_rfl)
        | 69, _ => hOO 69 (by kernel_rfl)
        | 70, _ => hOO 70 (by kernel_rfl)
        | 71, _ => hOO 71 (by kernel_rfl)
        | 72, _ => hOO 72 (by kernel_rfl)
        | 73, _ => hOO 73 (by kernel_rfl)
        | 74, _ => hOO 74 (by kernel_rfl)
        | 75, _ => hOO 75 (by kernel_rfl)
        | 76, _ => hOO 76 (by kernel_rfl)
        | 77, _ => hOO 77 (by kernel_rfl)
        | 78, _ => hOO 78 (by kernel_rfl)
        | 79, _ => hOO 79 (by kernel_rfl)
        | 80, _ => hOO 80 (by kernel_rfl)
        | 81, _ => hOO 81 (by kernel_rfl)
        | 82, _ => hOO 82 (by kernel_rfl)
        | 83, _ => hOO 83 (by kernel_rfl)
        | 84, _ => hOO 84 (by kernel_rfl)
        | 85, _ => hOO 85 (by kernel_rfl)
        | 86, _ => hOO 86 (by kernel_rfl)
        | 87, _ => hOO 87 (by kernel_rfl)
        | 88, _ => hOO 88 (by kernel_rfl)
        | 89, _ => hOO 89 (by kernel_rfl)
        | 90, _ => hOO 90 (by kernel_rfl)
        | 91, _ => hOO 91 (by kernel_rfl)
        | 92, _ => hOO 92 (by kernel_rfl)
        | 93, _ => hOO 93 (by kernel_rfl)
        | 94, _ => hOO 94 (by kernel_rfl)
        | 95, _ => hOO 95 (by kernel_rfl)
        | 96, _ => hOO 96 (by kernel_rfl)
        | 97, _ => hOO 97 (by kernel_rfl)
        | 98, _ => hOO 98 (by kernel_rfl)
        | 99, _ => hOO 99 (by kernel_rfl)
        | 100, _ => hOO 100 (by kernel_rfl)
        | 101, _ => hOO 101 (by kernel_rfl)
        | 102, _ => hOO 102 (by kernel_rfl)
        | 103, _ => hOO 103 (by kernel_rfl)
        | 104, _ => hOO 104 (by kernel_rfl)
        | 105, _ => hOO 105 (by kernel_rfl)
        | 106, _ => hOO 106 (by kernel_rfl)
        | 107, _ => hOO 107 (by kernel_rfl)
        | 108, _ => hOO 108 (by kernel_rfl)
        | 109, _ => hOO 109 (by kernel_rfl)
        | 110, _ => hOO 110 (by kernel_rfl)
        | 111, _ => hOO 111 (by kernel_rfl)
        | 112, _ => hOO 112 (by kernel_rfl)
        | 113, _ => hOO 113 (by kernel_rfl)
        | 114, _ => hOO 114 (by kernel_rfl)
        | 115, _ => hOO 115 (by kernel_rfl)
        | 116, _ => hOO 116 (by kernel_rfl)
        | 117, _ => hOO 117 (by kernel_rfl)
        | 118, _ => hOO 118 (by kernel_rfl)
        | 119, _ => hOO 119 (by kernel_rfl)
        | 120, _ => hOO 120 (by kernel_rfl)
        | 121, _ => hOO 121 (by kernel_rfl)
        | 122, _ => hOO 122 (by kernel_rfl)
        | 123, _ => hOO 123 (by kernel_rfl)
        | 124, _ => hOO 124 (by kernel_rfl)
        | 125, _ => hOO 125 (by kernel_rfl)
        | (k + 126), h => absurd h (by simp))
      have A4 : Below W.heap.size W w2 := Below.trans (show Below W.heap.size W w3.drew from by (repeat (first | (with_reducible exact Below.refl _ _) | (with_reducible assumption) | (with_reducible refine Near.up _ ?_) | (with_reducible refine Below.drew ?_) | (with_reducible refine below_alloc_on ?_ _) | (with_reducible refine below_set_on ?_ (by first | (simp; done) | (simp; omega) | omega) _)))) (hE.mono hBW)
      have P4 := box_in P3.drew hE hp
      have Y0 : Box w2 v0 #[.int .i64 X0, .int .i64 VT, .int .i64 VB, .int .i64 VE, .bool rd, .int .i64 VK, .bool rz, .int .i64 O0] := Y0
      have Y1 : Box w2 v1 #[.int .i64 VA, .int .i64 X1, .int .i64 VB, .int .i64 VE, .bool rd, .int .i64 VK, .bool rz, .int .i64 O1] := Y1
      have Y2 : Box w2 v2 #[.int .i64 VA, .int .i64 VT, .int .i64 X2, .int .i64 VE, .bool rd, .int .i64 VK, .bool rz, .int .i64 O2] := Y2
      have Y3 : Box w2 v3 #[.int .i64 VA, .int .i64 VT, .int .i64 VB, .int .i64 X3, .bool rd, .int .i64 VK, .bool rz, .int .i64 O3] := Y3
      have Y4 : Box w2 v4 #[.int .i64 VA, .int .i64 VT, .int .i64 VB, .int .i64 VE, .bool rd, .int .i64 X4, .bool rz, .int .i64 O4] := Y4
      clear hOO hDD hO hE f0 f1 f2 f3 f4 e0 e1 e2 e3 e4 e5 e6 e7 e8 e9 A3 P3 Q0 Q1 Q2 Q3 Q4 HQ0 HQ1 HQ2 HQ3 HQ4 hB0 H0 H1 H2 H3 H4 H
      have c0 := b0
      have c1 := b1
      have c2 := b2
      have c3 := b3
      have c4 := b4
      have hvB : W.heap.size ≤ v0 ∧ W.heap.size ≤ v1 ∧ W.heap.size ≤ v2 ∧ W.heap.size ≤ v3 ∧ W.heap.size ≤ v4 := by omega
      obtain ⟨ov0, ov1, ov2, ov3, ov4⟩ := hvB
      clear b0 b1 b2 b3 b4
      go_upto_region 5 with (fail)
      refine at_world (fun w => B ≤ w.heap.size ∧ Below W.heap.size W w ∧ Box w p #[.int .i64 VA, .int .i64 VT, .int .i64 VB, .int .i64 VE, .bool rd, .int .i64 VK, .bool rz, .int .i64 VO] ∧ Box w v0 #[.int .i64 X0, .int .i64 VT, .int .i64 VB, .int .i64 VE, .bool rd, .int .i64 VK, .bool rz, .int .i64 O0] ∧ Box w v1 #[.int .i64 VA, .int .i64 X1, .int .i64 VB, .int .i64 VE, .bool rd, .int .i64 VK, .bool rz, .int .i64 O1] ∧ Box w v2 #[.int .i64 VA, .int .i64 VT, .int .i64 X2, .int .i64 VE, .bool rd, .int .i64 VK, .bool rz, .int .i64 O2] ∧ Box w v3 #[.int .i64 VA, .int .i64 VT, .int .i64 VB, .int .i64 X3, .bool rd, .int .i64 VK, .bool rz, .int .i64 O3] ∧ Box w v4 #[.int .i64 VA, .int .i64 VT, .int .i64 VB, .int .i64 VE, .bool rd, .int .i64 X4, .bool rz, .int .i64 O4]) ⟨by have := Y0.1; omega, A4, P4, Y0, Y1, Y2, Y3, Y4⟩ ?_
      clear Y0 Y1 Y2 Y3 Y4 A4 P4
      rintro w5 ⟨S5, A5, P5, V0, V1, V2, V3, V4⟩
      have V0 : Box w5.drew v0 #[.int .i64 X0, .int .i64 VT, .int .i64 VB, .int .i64 VE, .bool rd, .int .i64 VK, .bool rz, .int .i64 O0] := V0
      have V1 : Box w5.drew v1 #[.int .i64 VA, .int .i64 X1, .int .i64 VB, .int .i64 VE, .bool rd, .int .i64 VK, .bool rz, .int .i64 O1] := V1
      have V2 : Box w5.drew v2 #[.int .i64 VA, .int .i64 VT, .int .i64 X2, .int .i64 VE, .bool rd, .int .i64 VK, .bool rz, .int .i64 O2] := V2
      have V3 : Box w5.drew v3 #[.int .i64 VA, .int .i64 VT, .int .i64 VB, .int .i64 X3, .bool rd, .int .i64 VK, .bool rz, .int .i64 O3] := V3
      have V4 : Box w5.drew v4 #[.int .i64 VA, .int .i64 VT, .int .i64 VB, .int .i64 VE, .bool rd, .int .i64 X4, .bool rz, .int .i64 O4] := V4
      have HP : Box w5.drew p #[.int .i64 VA, .int .i64 VT, .int .i64 VB, .int .i64 VE, .bool rd, .int .i64 VK, .bool rz, .int .i64 VO] := P5
      obtain ⟨cs, hcs⟩ : ∃ cs : Nat → Value, (fun i => match i with
          | 0 => .pointer (some ⟨p, 0, none⟩)
          | 1 => .int .i64 VA
          | 10 => .pointer (some ⟨v0, 0, none⟩)
          | 2 => .pointer (some ⟨p, 1, none⟩)
          | 3 => .int .i64 VT
          | 12 => .pointer (some ⟨v1, 1, none⟩)
          | 4 => .pointer (some ⟨p, 2, none⟩)
          | 5 => .int .i64 VB
          | 14 => .pointer (some ⟨v2, 2, none⟩)
          | 6 => .pointer (some ⟨p, 3, none⟩)
          | 7 => .int .i64 VE
          | 16 => .pointer (some ⟨v3, 3, none⟩)
          | 8 => .pointer (some ⟨p, 5, none⟩)
          | 9 => .int .i64 VK
          | 18 => .pointer (some ⟨v4, 5, none⟩)
          | _ => undef) = cs := ⟨_, rfl⟩
      have e0 : cs 0 = .pointer (some ⟨p, 0, none⟩) := by rw [← hcs]; rfl
      have e1 : cs 1 = .int .i64 VA := by rw [← hcs]; rfl
      have e10 : cs 10 = .pointer (some ⟨v0, 0, none⟩) := by rw [← hcs]; rfl
      have e2 : cs 2 = .pointer (some ⟨p, 1, none⟩) := by rw [← hcs]; rfl
      have e3 : cs 3 = .int .i64 VT := by rw [← hcs]; rfl
      have e12 : cs 12 = .pointer (some ⟨v1, 1, none⟩) := by rw [← hcs]; rfl
      have e4 : cs 4 = .pointer (some ⟨p, 2, none⟩) := by rw [← hcs]; rfl
      have e5 : cs 5 = .int .i64 VB := by rw [← hcs]; rfl
      have e14 : cs 14 = .pointer (some ⟨v2, 2, none⟩) := by rw [← hcs]; rfl
      have e6 : cs 6 = .pointer (some ⟨p, 3, none⟩) := by rw [← hcs]; rfl
      have e7 : cs 7 = .int .i64 VE := by rw [← hcs]; rfl
      have e16 : cs 16 = .pointer (some ⟨v3, 3, none⟩) := by rw [← hcs]; rfl
      have e8 : cs 8 = .pointer (some ⟨p, 5, none⟩) := by rw [← hcs]; rfl
      have e9 : cs 9 = .int .i64 VK := by rw [← hcs]; rfl
      have e18 : cs 18 = .pointer (some ⟨v4, 5, none⟩) := by rw [← hcs]; rfl
      clear hcs
      refine wp_region_looseS 20 126 (by as_aux_lemma => kernel_rfl) (by as_aux_lemma => kernel_rfl) rfl (fun w w' => Below B w w') (fun w => Below.refl _ _) (fun a b c h g => Below.trans h g)
        (looseD (fun i => if i = 11 ∨ i = 13 ∨ i = 15 ∨ i = 17 ∨ i = 19 then some fun _ _ => True else none) cs)
        (fun L V w => Blks 5 B (fun i => match i with | 0 => #[.int .i64 X0, .int .i64 VT, .int .i64 VB, .int .i64 VE, .bool rd, .int .i64 VK, .bool rz, .int .i64 O0] | 1 => #[.int .i64 VA, .int .i64 X1, .int .i64 VB, .int .i64 VE, .bool rd, .int .i64 VK, .bool rz, .int .i64 O1] | 2 => #[.int .i64 VA, .int .i64 VT, .int .i64 X2, .int .i64 VE, .bool rd, .int .i64 VK, .bool rz, .int .i64 O2] | 3 => #[.int .i64 VA, .int .i64 VT, .int .i64 VB, .int .i64 X3, .bool rd, .int .i64 VK, .bool rz, .int .i64 O3] | 4 => #[.int .i64 VA, .int .i64 VT, .int .i64 VB, .int .i64 VE, .bool rd, .int .i64 X4, .bool rz, .int .i64 O4] | _ => #[]) (fun i => match i with | 0 => #[.int .i64 VA, .int .i64 VT, .int .i64 VB, .int .i64 VE, .bool rd, .int .i64 VK, .bool rz, .int .i64 O0] | 1 => #[.int .i64 VA, .int .i64 VT, .int .i64 VB, .int .i64 VE, .bool rd, .int .i64 VK, .bool rz, .int .i64 O1] | 2 => #[.int .i64 VA, .int .i64 VT, .int .i64 VB, .int .i64 VE, .bool rd, .int .i64 VK, .bool rz, .int .i64 O2] | 3 => #[.int .i64 VA, .int .i64 VT, .int .i64 VB, .int .i64 VE, .bool rd, .int .i64 VK, .bool rz, .int .i64 O3] | 4 => #[.int .i64 VA, .int .i64 VT, .int .i64 VB, .int .i64 VE, .bool rd, .int .i64 VK, .bool rz, .int .i64 O4] | _ => #[]) (fun _ => true) (fun i => L (11 + 2 * i)) (fun i => .pointer (some ⟨(match i with | 0 => v0 | 1 => v1 | 2 => v2 | 3 => v3 | _ => v4), 0, none⟩)) w)
        (looseD_stable ?_) (fun L L' V V' w hl hv h => h.congr (fun i hi => rfl) (fun i hi => (hl _).symm) (fun i hi ha => rfl)) (⟨fun i => match i with | 0 => v0 | 1 => v1 | 2 => v2 | 3 => v3 | _ => v4, fun i hi => by match i, hi with | 0, _ => exact ⟨fun _ => rfl, fun _ => ⟨rfl, c0, V0, fun j hj _ hne => (by match j, hj with | 0, _ => exact absurd rfl hne | 1, _ => exact m01 | 2, _ => exact m02 | 3, _ => exact m03 | 4, _ => exact m04)⟩⟩ | 1, _ => exact ⟨fun _ => rfl, fun _ => ⟨rfl, c1, V1, fun j hj _ hne => (by match j, hj with | 0, _ => exact m10 | 1, _ => exact absurd rfl hne | 2, _ => exact m12 | 3, _ => exact m13 | 4, _ => exact m14)⟩⟩ | 2, _ => exact ⟨fun _ => rfl, fun _ => ⟨rfl, c2, V2, fun j hj _ hne => (by match j, hj with | 0, _ => exact m20 | 1, _ => exact m21 | 2, _ => exact absurd rfl hne | 3, _ => exact m23 | 4, _ => exact m24)⟩⟩ | 3, _ => exact ⟨fun _ => rfl, fun _ => ⟨rfl, c3, V3, fun j hj _ hne => (by match j, hj with | 0, _ => exact m30 | 1, _ => exact m31 | 2, _ => exact m32 | 3, _ => exact absurd rfl hne | 4, _ => exact m34)⟩⟩ | 4, _ => exact ⟨fun _ => rfl, fun _ => ⟨rfl, c4, V4, fun j hj _ hne => (by match j, hj with | 0, _ => exact m40 | 1, _ => exact m41 | 2, _ => exact m42 | 3, _ => exact m43 | 4, _ => exact absurd rfl hne)⟩⟩⟩) ?_ ?_
      · intro i p hp v u u' h hE
        split at hp
        · cases hp; trivial
        · cases hp
      · simp only [List.take_succ_cons, List.take_zero]
        refine looseSAll_cons (k := 1) rfl (fun a u L hE hev hkn hLi hG => ?_) ?_
        · have kc : ∀ c, a.eval (.const c) = c := fun _ => rfl
          have kf : ∀ f, a.eval (.func f) = .func (.func f) #[] #[] := fun _ => rfl
          have t7 : a.eval (.tmp 7) = .pointer (some ⟨p, 0, none⟩) := hev 7 (by kernel_rfl)
          exact loose_val rfl (v := .pointer (some ⟨p, 0, none⟩)) (by generalize a.eval = ev at *; simp [go_sem, kc, kf, t7]) ⟨Below.refl _ _, e0.symm, hG.congr (fun i hi => rfl) (fun i hi => if_neg (by omega)) (fun i hi _ => rfl)⟩
        refine looseSAll_cons (k := 2) rfl (fun a u L hE hev hkn hLi hG => ?_) ?_
        · have kc : ∀ c, a.eval (.const c) = c := fun _ => rfl
          have kf : ∀ f, a.eval (.func f) = .func (.func f) #[] #[] := fun _ => rfl
          have t45 : a.eval (.tmp 45) = .pointer (some ⟨p, 0, none⟩) := ((hkn 0 (by kernel_rfl)).2 (by decide +kernel) : a.eval (.tmp 45) = cs 0).trans e0
          have cr := (box_in HP hE hp).2.1
          exact loose_val rfl (v := .int .i64 VA) (by generalize a.eval = ev at *; simp [go_sem, kc, kf, t45, cr]) ⟨Below.refl _ _, e1.symm, hG.congr (fun i hi => rfl) (fun i hi => if_neg (by omega)) (fun i hi _ => rfl)⟩
        refine looseSAll_cons (k := 3) rfl (fun a u L hE hev hkn hLi hG => ?_) ?_
        · have kc : ∀ c, a.eval (.const c) = c := fun _ => rfl
          have kf : ∀ f, a.eval (.func f) = .func (.func f) #[] #[] := fun _ => rfl
          have t7 : a.eval (.tmp 7) = .pointer (some ⟨p, 0, none⟩) := hev 7 (by kernel_rfl)
          exact loose_val rfl (v := .pointer (some ⟨p, 1, none⟩)) (by generalize a.eval = ev at *; simp [go_sem, kc, kf, t7]) ⟨Below.refl _ _, e2.symm, hG.congr (fun i hi => rfl) (fun i hi => if_neg (by omega)) (fun i hi _ => rfl)⟩
        refine looseSAll_cons (k := 4) rfl (fun a u L hE hev hkn hLi hG => ?_) ?_
        · have kc : ∀ c, a.eval (.const c) = c := fun _ => rfl
          have kf : ∀ f, a.eval (.func f) = .func (.func f) #[] #[] := fun _ => rfl
          have t47 : a.eval (.tmp 47) = .pointer (some ⟨p, 1, none⟩) := ((hkn 2 (by kernel_rfl)).2 (by decide +kernel) : a.eval (.tmp 47) = cs 2).trans e2
          have cr := (box_in HP hE hp).2.1
          exact loose_val rfl (v := .int .i64 VT) (by generalize a.eval = ev at *; simp [go_sem, kc, kf, t47, cr]) ⟨Below.refl _ _, e3.symm, hG.congr (fun i hi => rfl) (fun i hi => if_neg (by omega)) (fun i hi _ => rfl)⟩
        refine looseSAll_cons (k := 5) rfl (fun a u L hE hev hkn hLi hG => ?_) ?_
        · have kc : ∀ c, a.eval (.const c) = c := fun _ => rfl
          have kf : ∀ f, a.eval (.func f) = .func (.func f) #[] #[] := fun _ => rfl
          have t7 : a.eval (.tmp 7) = .pointer (some ⟨p, 0, none⟩) := hev 7 (by kernel_rfl)
          exact loose_val rfl (v := .pointer (some ⟨p, 2, none⟩)) (by generalize a.eval = ev at *; simp [go_sem, kc, kf, t7]) ⟨Below.refl _ _, e4.symm, hG.congr (fun i hi => rfl) (fun i hi => if_neg (by omega)) (fun i hi _ => rfl)⟩
        refine looseSAll_cons (k := 6) rfl (fun a u L hE hev hkn hLi hG => ?_) ?_
        · have kc : ∀ c, a.eval (.const c) = c := fun _ => rfl
          have kf : ∀ f, a.eval (.func f) = .func (.func f) #[] #[] := fun _ => rfl
          have t49 : a.eval (.tmp 49) = .pointer (some ⟨p, 2, none⟩) := ((hkn 4 (by kernel_rfl)).2 (by decide +kernel) : a.eval (.tmp 49) = cs 4).trans e4
          have cr := (box_in HP hE hp).2.1
          exact loose_val rfl (v := .int .i64 VB) (by generalize a.eval = ev at *; simp [go_sem, kc, kf, t49, cr]) ⟨Below.refl _ _, e5.symm, hG.congr (fun i hi => rfl) (fun i hi => if_neg (by omega)) (fun i hi _ => rfl)⟩
        refine looseSAll_cons (k := 7) rfl (fun a u L hE hev hkn hLi hG => ?_) ?_
        · have kc : ∀ c, a.eval (.const c) = c := fun _ => rfl
          have kf : ∀ f, a.eval (.func f) = .func (.func f) #[] #[] := fun _ => rfl
          have t7 : a.eval (.tmp 7) = .pointer (some ⟨p, 0, none⟩) := hev 7 (by kernel_rfl)
          exact loose_val rfl (v := .pointer (some ⟨p, 3, none⟩)) (by generalize a.eval = ev at *; simp [go_sem, kc, kf, t7]) ⟨Below.refl _ _, e6.symm, hG.congr (fun i hi => rfl) (fun i hi => if_neg (by omega)) (fun i hi _ => rfl)⟩
        refine looseSAll_cons (k := 8) rfl (fun a u L hE hev hkn hLi hG => ?_) ?_
        · have kc : ∀ c, a.eval (.const c) = c := fun _ => rfl
          have kf : ∀ f, a.eval (.func f) = .func (.func f) #[] #[] := fun _ => rfl
          have t51 : a.eval (.tmp 51) = .pointer (some ⟨p, 3, none⟩) := ((hkn 6 (by kernel_rfl)).2 (by decide +kernel) : a.eval (.tmp 51) = cs 6).trans e6
          have cr := (box_in HP hE hp).2.1
          exact loose_val rfl (v := .int .i64 VE) (by generalize a.eval = ev at *; simp [go_sem, kc, kf, t51, cr]) ⟨Below.refl _ _, e7.symm, hG.congr (fun i hi => rfl) (fun i hi => if_neg (by omega)) (fun i hi _ => rfl)⟩
        refine looseSAll_cons (k := 9) rfl (fun a u L hE hev hkn hLi hG => ?_) ?_
        · have kc : ∀ c, a.eval (.const c) = c := fun _ => rfl
          have kf : ∀ f, a.eval (.func f) = .func (.func f) #[] #[] := fun _ => rfl
          have t7 : a.eval (.tmp 7) = .pointer (some ⟨p, 0, none⟩) := hev 7 (by kernel_rfl)
          exact loose_val rfl (v := .pointer (some ⟨p, 5, none⟩)) (by generalize a.eval = ev at *; simp [go_sem, kc, kf, t7]) ⟨Below.refl _ _, e8.symm, hG.congr (fun i hi => rfl) (fun i hi => if_neg (by omega)) (fun i hi _ => rfl)⟩
        refine looseSAll_cons (k := 10) rfl (fun a u L hE hev hkn hLi hG => ?_) ?_
        · have kc : ∀ c, a.eval (.const c) = c := fun _ => rfl
          have kf : ∀ f, a.eval (.func f) = .func (.func f) #[] #[] := fun _ => rfl
          have t53 : a.eval (.tmp 53) = .pointer (some ⟨p, 5, none⟩) := ((hkn 8 (by kernel_rfl)).2 (by decide +kernel) : a.eval (.tmp 53) = cs 8).trans e8
          have cr := (box_in HP hE hp).2.1
          exact loose_val rfl (v := .int .i64 VK) (by generalize a.eval = ev at *; simp [go_sem, kc, kf, t53, cr]) ⟨Below.refl _ _, e9.symm, hG.congr (fun i hi => rfl) (fun i hi => if_neg (by omega)) (fun i hi _ => rfl)⟩
        refine looseSAll_cons (k := 11) rfl (fun a u L hE hev hkn hLi hG => ?_) ?_
        · have kc : ∀ c, a.eval (.const c) = c := fun _ => rfl
          have kf : ∀ f, a.eval (.func f) = .func (.func f) #[] #[] := fun _ => rfl
          have t13 : a.eval (.tmp 13) = .pointer (some ⟨v0, 0, none⟩) := hev 13 (by kernel_rfl)
          exact loose_val rfl (v := .pointer (some ⟨v0, 0, none⟩)) (by generalize a.eval = ev at *; simp [go_sem, kc, kf, t13]) ⟨Below.refl _ _, e10.symm, hG.congr (fun i hi => rfl) (fun i hi => if_neg (by omega)) (fun i hi _ => rfl)⟩
        refine looseSAll_cons (k := 12) rfl (fun a u L hE hev hkn hLi hG => ?_) ?_
        · have kc : ∀ c, a.eval (.const c) = c := fun _ => rfl
          have kf : ∀ f, a.eval (.func f) = .func (.func f) #[] #[] := fun _ => rfl
          have t55 : a.eval (.tmp 55) = .pointer (some ⟨v0, 0, none⟩) := ((hkn 10 (by kernel_rfl)).2 (by decide +kernel) : a.eval (.tmp 55) = cs 10).trans e10
          have t46 : a.eval (.tmp 46) = .int .i64 VA := ((hkn 1 (by kernel_rfl)).2 (by decide +kernel) : a.eval (.tmp 46) = cs 1).trans e1
          obtain ⟨g, hV, hb, hx, hput⟩ := hG.get 0 (by omega) rfl hLi
          have hV' : (Value.pointer (some ⟨v0, 0, none⟩)) = .pointer (some ⟨g, 0, none⟩) := hV
          obtain rfl : v0 = g := by injection hV' with h1; injection h1 with h2; injection h2
          have cg := hx.2.1
          have fg := hx.2.2
          have lg := hx.1
          refine loose_store rfl rfl (w' := u.setCell ⟨v0, 0, none⟩ (.int .i64 VA)) (by generalize a.eval = ev at *; simp [go_sem, kc, kf, t55, t46, cg, fg, lg]) ⟨(Below.refl B u).setCell (p := ⟨v0, 0, none⟩) hb _, trivial, ?_⟩
          refine (hput _ (fun i => if i = 0 then true else L (11 + 2 * i)) (box_cast (Box.set hx (i := 0) (by simp) _) rfl) (fun g' cs h ne0 => ?_) (fun i hi => rfl)).congr (fun i hi => rfl) (fun i hi => upd (by omega) _ _) (fun i hi _ => rfl)
          exact Box.far ne0 (fun e => h e.symm) _
        refine looseSAll_cons (k := 13) rfl (fun a u L hE hev hkn hLi hG => ?_) ?_
        · have kc : ∀ c, a.eval (.const c) = c := fun _ => rfl
          have kf : ∀ f, a.eval (.func f) = .func (.func f) #[] #[] := fun _ => rfl
          have t14 : a.eval (.tmp 14) = .pointer (some ⟨v1, 0, none⟩) := hev 14 (by kernel_rfl)
          exact loose_val rfl (v := .pointer (some ⟨v1, 1, none⟩)) (by generalize a.eval = ev at *; simp [go_sem, kc, kf, t14]) ⟨Below.refl _ _, e12.symm, hG.congr (fun i hi => rfl) (fun i hi => if_neg (by omega)) (fun i hi _ => rfl)⟩
        refine looseSAll_cons (k := 14) rfl (fun a u L hE hev hkn hLi hG => ?_) ?_
        · have kc : ∀ c, a.eval (.const c) = c := fun _ => rfl
          have kf : ∀ f, a.eval (.func f) = .func (.func f) #[] #[] := fun _ => rfl
          have t56 : a.eval (.tmp 56) = .pointer (some ⟨v1, 1, none⟩) := ((hkn 12 (by kernel_rfl)).2 (by decide +kernel) : a.eval (.tmp 56) = cs 12).trans e12
          have t48 : a.eval (.tmp 48) = .int .i64 VT := ((hkn 3 (by kernel_rfl)).2 (by decide +kernel) : a.eval (.tmp 48) = cs 3).trans e3
          obtain ⟨g, hV, hb, hx, hput⟩ := hG.get 1 (by omega) rfl hLi
          have hV' : (Value.pointer (some ⟨v1, 0, none⟩)) = .pointer (some ⟨g, 0, none⟩) := hV
          obtain rfl : v1 = g := by injection hV' with h1; injection h1 with h2; injection h2
          have cg := hx.2.1
          have fg := hx.2.2
          have lg := hx.1
          refine loose_store rfl rfl (w' := u.setCell ⟨v1, 1, none⟩ (.int .i64 VT)) (by generalize a.eval = ev at *; simp [go_sem, kc, kf, t56, t48, cg, fg, lg]) ⟨(Below.refl B u).setCell (p := ⟨v1, 1, none⟩) hb _, trivial, ?_⟩
          refine (hput _ (fun i => if i = 1 then true else L (11 + 2 * i)) (box_cast (Box.set hx (i := 1) (by simp) _) rfl) (fun g' cs h ne0 => ?_) (fun i hi => rfl)).congr (fun i hi => rfl) (fun i hi => upd (by omega) _ _) (fun i hi _ => rfl)
          exact Box.far ne0 (fun e => h e.symm) _
        refine looseSAll_cons (k := 15) rfl (fun a u L hE hev hkn hLi hG => ?_) ?_
        · have kc : ∀ c, a.eval (.const c) = c := fun _ => rfl
          have kf : ∀ f, a.eval (.func f) = .func (.func f) #[] #[] := fun _ => rfl
          have t15 : a.eval (.tmp 15) = .pointer (some ⟨v2, 0, none⟩) := hev 15 (by kernel_rfl)
          exact loose_val rfl (v := .pointer (some ⟨v2, 2, none⟩)) (by generalize a.eval = ev at *; simp [go_sem, kc, kf, t15]) ⟨Below.refl _ _, e14.symm, hG.congr (fun i hi => rfl) (fun i hi => if_neg (by omega)) (fun i hi _ => rfl)⟩
        refine looseSAll_cons (k := 16) rfl (fun a u L hE hev hkn hLi hG => ?_) ?_
        · have kc : ∀ c, a.eval (.const c) = c := fun _ => rfl
          have kf : ∀ f, a.eval (.func f) = .func (.func f) #[] #[] := fun _ => rfl
          have t57 : a.eval (.tmp 57) = .pointer (some ⟨v2, 2, none⟩) := ((hkn 14 (by kernel_rfl)).2 (by decide +kernel) : a.eval (.tmp 57) = cs 14).trans e14
          have t50 : a.eval (.tmp 50) = .int .i64 VB := ((hkn 5 (by kernel_rfl)).2 (by decide +kernel) : a.eval (.tmp 50) = cs 5).trans e5
          obtain ⟨g, hV, hb, hx, hput⟩ := hG.get 2 (by omega) rfl hLi
          have hV' : (Value.pointer (some ⟨v2, 0, none⟩)) = .pointer (some ⟨g, 0, none⟩) := hV
          obtain rfl : v2 = g := by injection hV' with h1; injection h1 with h2; injection h2
          have cg := hx.2.1
          have fg := hx.2.2
          have lg := hx.1
          refine loose_store rfl rfl (w' := u.setCell ⟨v2, 2, none⟩ (.int .i64 VB)) (by generalize a.eval = ev at *; simp [go_sem, kc, kf, t57, t50, cg, fg, lg]) ⟨(Below.refl B u).setCell (p := ⟨v2, 2, none⟩) hb _, trivial, ?_⟩
          refine (hput _ (fun i => if i = 2 then true else L (11 + 2 * i)) (box_cast (Box.set hx (i := 2) (by simp) _) rfl) (fun g' cs h ne0 => ?_) (fun i hi => rfl)).congr (fun i hi => rfl) (fun i hi => upd (by omega) _ _) (fun i hi _ => rfl)
          exact Box.far ne0 (fun e => h e.symm) _
        refine looseSAll_cons (k := 17) rfl (fun a u L hE hev hkn hLi hG => ?_) ?_
        · have kc : ∀ c, a.eval (.const c) = c := fun _ => rfl
          have kf : ∀ f, a.eval (.func f) = .func (.func f) #[] #[] := fun _ => rfl
          have t16 : a.eval (.tmp 16) = .pointer (some ⟨v3, 0, none⟩) := hev 16 (by kernel_rfl)
          exact loose_val rfl (v := .pointer (some ⟨v3, 3, none⟩)) (by generalize a.eval = ev at *; simp [go_sem, kc, kf, t16]) ⟨Below.refl _ _, e16.symm, hG.congr (fun i hi => rfl) (fun i hi => if_neg (by omega)) (fun i hi _ => rfl)⟩
        refine looseSAll_cons (k := 18) rfl (fun a u L hE hev hkn hLi hG => ?_) ?_
        · have kc : ∀ c, a.eval (.const c) = c := fun _ => rfl
          have kf : ∀ f, a.eval (.func f) = .func (.func f) #[] #[] := fun _ => rfl
          have t58 : a.eval (.tmp 58) = .pointer (some ⟨v3, 3, none⟩) := ((hkn 16 (by kernel_rfl)).2 (by decide +kernel) : a.eval (.tmp 58) = cs 16).trans e16
          have t52 : a.eval (.tmp 52) = .int .i64 VE := ((hkn 7 (by kernel_rfl)).2 (by decide +kernel) : a.eval (.tmp 52) = cs 7).trans e7
          obtain ⟨g, hV, hb, hx, hput⟩ := hG.get 3 (by omega) rfl hLi
          have hV' : (Value.pointer (some ⟨v3, 0, none⟩)) = .pointer (some ⟨g, 0, none⟩) := hV
          obtain rfl : v3 = g := by injection hV' with h1; injection h1 with h2; injection h2
          have cg := hx.2.1
          have fg := hx.2.2
          have lg := hx.1
          refine loose_store rfl rfl (w' := u.setCell ⟨v3, 3, none⟩ (.int .i64 VE)) (by generalize a.eval = ev at *; simp [go_sem, kc, kf, t58, t52, cg, fg, lg]) ⟨(Below.refl B u).setCell (p := ⟨v3, 3, none⟩) hb _, trivial, ?_⟩
          refine (hput _ (fun i => if i = 3 then true else L (11 + 2 * i)) (box_cast (Box.set hx (i := 3) (by simp) _) rfl) (fun g' cs h ne0 => ?_) (fun i hi => rfl)).congr (fun i hi => rfl) (fun i hi => upd (by omega) _ _) (fun i hi _ => rfl)
          exact Box.far ne0 (fun e => h e.symm) _
        refine looseSAll_cons (k := 19) rfl (fun a u L hE hev hkn hLi hG => ?_) ?_
        · have kc : ∀ c, a.eval (.const c) = c := fun _ => rfl
          have kf : ∀ f, a.eval (.func f) = .func (.func f) #[] #[] := fun _ => rfl
          have t17 : a.eval (.tmp 17) = .pointer (some ⟨v4, 0, none⟩) := hev 17 (by kernel_rfl)
          exact loose_val rfl (v := .pointer (some ⟨v4, 5, none⟩)) (by generalize a.eval = ev at *; simp [go_sem, kc, kf, t17]) ⟨Below.refl _ _, e18.symm, hG.congr (fun i hi => rfl) (fun i hi => if_neg (by omega)) (fun i hi _ => rfl)⟩
        refine looseSAll_cons (k := 20) rfl (fun a u L hE hev hkn hLi hG => ?_) ?_
        · have kc : ∀ c, a.eval (.const c) = c := fun _ => rfl
          have kf : ∀ f, a.eval (.func f) = .func (.func f) #[] #[] := fun _ => rfl
          have t59 : a.eval (.tmp 59) = .pointer (some ⟨v4, 5, none⟩) := ((hkn 18 (by kernel_rfl)).2 (by decide +kernel) : a.eval (.tmp 59) = cs 18).trans e18
          have t54 : a.eval (.tmp 54) = .int .i64 VK := ((hkn 9 (by kernel_rfl)).2 (by decide +kernel) : a.eval (.tmp 54) = cs 9).trans e9
          obtain ⟨g, hV, hb, hx, hput⟩ := hG.get 4 (by omega) rfl hLi
          have hV' : (Value.pointer (some ⟨v4, 0, none⟩)) = .pointer (some ⟨g, 0, none⟩) := hV
          obtain rfl : v4 = g := by injection hV' with h1; injection h1 with h2; injection h2
          have cg := hx.2.1
          have fg := hx.2.2
          have lg := hx.1
          refine loose_store rfl rfl (w' := u.setCell ⟨v4, 5, none⟩ (.int .i64 VK)) (by generalize a.eval = ev at *; simp [go_sem, kc, kf, t59, t54, cg, fg, lg]) ⟨(Below.refl B u).setCell (p := ⟨v4, 5, none⟩) hb _, trivial, ?_⟩
          refine (hput _ (fun i => if i = 4 then true else L (11 + 2 * i)) (box_cast (Box.set hx (i := 5) (by simp) _) rfl) (fun g' cs h ne0 => ?_) (fun i hi => rfl)).congr (fun i hi => rfl) (fun i hi => upd (by omega) _ _) (fun i hi _ => rfl)
          exact Box.far ne0 (fun e => h e.symm) _
        exact looseSAll_nil
      · intro a w2 hE hsz hdf hO hDD hG
        have hOO : ∀ s, isDst _ s = false → a.tmps.getD s undef = (List.toArray (.agg #[.float .f64 ra, .float .f64 rt, .float .f64 rb, .float .f64 re, .bool rd, .int .i64 rk, .bool rz] :: .float .f64 wx :: .int .i64 wy :: .pointer (some ⟨r, 0, none⟩) :: undef :: undef :: .bool false :: .pointer (some ⟨p, 0, none⟩) :: .pointer (some ⟨q0, 0, none⟩) :: .pointer (some ⟨q1, 0, none⟩) :: .pointer (some ⟨q2, 0, none⟩) :: .pointer (some ⟨q3, 0, none⟩) :: .pointer (some ⟨q4, 0, none⟩) :: .pointer (some ⟨v0, 0, none⟩) :: .pointer (some ⟨v1, 0, none⟩) :: .pointer (some ⟨v2, 0, none⟩) :: .pointer (some ⟨v3, 0, none⟩) :: .pointer (some ⟨v4, 0, none⟩) :: .agg #[.float .f64 ra, .float .f64 rt, .float .f64 rb, .float .f64 re, .bool rd, .int .i64 rk, .bool rz] :: .agg #[.int .i64 VA, .int .i64 VT, .int .i64 VB, .int .i64 VE, .bool rd, .int .i64 VK, .bool rz, .int .i64 VO] :: .agg #[.float .f64 ra, .float .f64 rt, .float .f64 rb, .float .f64 re, .bool rd, .int .i64 rk, .bool rz] :: .agg #[.float .f64 ra, .float .f64 rt, .float .f64 rb, .float .f64 re, .bool rd, .int .i64 rk, .bool rz] :: .agg #[.float .f64 ra, .float .f64 rt, .float .f64 rb, .float .f64 re, .bool rd, .int .i64 rk, .bool rz] :: .agg #[.float .f64 ra, .float .f64 rt, .float .f64 rb, .float .f64 re, .bool rd, .int .i64 rk, .bool rz] :: .agg #[.float .f64 ra, .float .f64 rt, .float .f64 rb, .float .f64 re, .bool rd, .int .i64 rk, .bool rz] :: .float .f64 wx :: .float .f64 wx :: .float .f64 wx :: .float .f64 wx :: .int .i64 wy :: .pointer (some ⟨q0, 0, none⟩) :: .pointer (some ⟨q1, 1, none⟩) :: .pointer (some ⟨q2, 2, none⟩) :: .pointer (some ⟨q3, 3, none⟩) :: .pointer (some ⟨q4, 5, none⟩) :: .agg #[.float .f64 wx, .float .f64 rt, .float .f64 rb, .float .f64 re, .bool rd, .int .i64 rk, .bool rz] :: .agg #[.int .i64 X0, .int .i64 VT, .int .i64 VB, .int .i64 VE, .bool rd, .int .i64 VK, .bool rz, .int .i64 O0] :: .agg #[.float .f64 ra, .float .f64 wx, .float .f64 rb, .float .f64 re, .bool rd, .int .i64 rk, .bool rz] :: .agg #[.int .i64 VA, .int .i64 X1, .int .i64 VB, .int .i64 VE, .bool rd, .int .i64 VK, .bool rz, .int .i64 O1] :: .agg #[.float .f64 ra, .float .f64 rt, .float .f64 wx, .float .f64 re, .bool rd, .int .i64 rk, .bool rz] :: .agg #[.int .i64 VA, .int .i64 VT, .int .i64 X2, .int .i64 VE, .bool rd, .int .i64 VK, .bool rz, .int .i64 O2] :: .agg #[.float .f64 ra, .float .f64 rt, .float .f64 rb, .float .f64 wx, .bool rd, .int .i64 rk, .bool rz] :: .agg #[.int .i64 VA, .int .i64 VT, .int .i64 VB, .int .i64 X3, .bool rd, .int .i64 VK, .bool rz, .int .i64 O3] :: .agg #[.float .f64 ra, .float .f64 rt, .float .f64 rb, .float .f64 re, .bool rd, .int .i64 wy, .bool rz] :: .agg #[.int .i64 VA, .int .i64 VT, .int .i64 VB, .int .i64 VE, .bool rd, .int .i64 X4, .bool rz, .int .i64 O4] :: undef :: undef :: undef :: undef :: undef :: undef :: undef :: undef :: undef :: undef :: undef :: undef :: undef :: undef :: undef :: undef :: undef :: undef :: undef :: undef :: undef :: undef :: undef :: undef :: undef :: undef :: undef :: undef :: undef :: undef :: undef :: undef :: undef :: undef :: undef :: undef :: undef :: undef :: undef :: undef :: undef :: undef :: undef :: undef :: undef :: undef :: undef :: undef :: undef :: undef :: undef :: undef :: undef :: undef :: undef :: undef :: undef :: undef :: undef :: undef :: undef :: undef :: undef :: undef :: undef :: undef :: undef :: undef :: undef :: undef :: undef :: undef :: undef :: undef :: undef :: undef :: undef :: undef :: undef :: undef :: undef :: []) : Array Value).getD s undef := fun s h => by rw [Array.getD_eq_getD_getElem?, Array.getD_eq_getD_getElem?, hO s h]
        obtain ⟨q, hq⟩ := hG.full (fun i hi => rfl) (fun i hi => by simp; omega)
        obtain ⟨f0, _, Y0, _⟩ := hq 0 (by omega)
        have f0' : (Value.pointer (some ⟨v0, 0, none⟩)) = .pointer (some ⟨q 0, 0, none⟩) := f0
        have g0 : v0 = q 0 := by injection f0' with h1; injection h1 with h2; injection h2
        rw [← g0] at Y0
        obtain ⟨f1, _, Y1, _⟩ := hq 1 (by omega)
        have f1' : (Value.pointer (some ⟨v1, 0, none⟩)) = .pointer (some ⟨q 1, 0, none⟩) := f1
        have g1 : v1 = q 1 := by injection f1' with h1; injection h1 with h2; injection h2
        rw [← g1] at Y1
        obtain ⟨f2, _, Y2, _⟩ := hq 2 (by omega)
        have f2' : (Value.pointer (some ⟨v2, 0, none⟩)) = .pointer (some ⟨q 2, 0, none⟩) := f2
        have g2 : v2 = q 2 := by injection f2' with h1; injection h1 with h2; injection h2
        rw [← g2] at Y2
        obtain ⟨f3, _, Y3, _⟩ := hq 3 (by omega)
        have f3' : (Value.pointer (some ⟨v3, 0, none⟩)) = .pointer (some ⟨q 3, 0, none⟩) := f3
        have g3 : v3 = q 3 := by injection f3' with h1; injection h1 with h2; injection h2
        rw [← g3] at Y3
        obtain ⟨f4, _, Y4, _⟩ := hq 4 (by omega)
        have f4' : (Value.pointer (some ⟨v4, 0, none⟩)) = .pointer (some ⟨q 4, 0, none⟩) := f4
        have g4 : v4 = q 4 := by injection f4' with h1; injection h1 with h2; injection h2
        rw [← g4] at Y4
        obtain rfl := act_lit (ys := (List.toArray (.agg #[.float .f64 ra, .float .f64 rt, .float .f64 rb, .float .f64 re, .bool rd, .int .i64 rk, .bool rz] :: .float .f64 wx :: .int .i64 wy :: .pointer (some ⟨r, 0, none⟩) :: undef :: undef :: .bool false :: .pointer (some ⟨p, 0, none⟩) :: .pointer (some ⟨q0, 0, none⟩) :: .pointer (some ⟨q1, 0, none⟩) :: .pointer (some ⟨q2, 0, none⟩) :: .pointer (some ⟨q3, 0, none⟩) :: .pointer (some ⟨q4, 0, none⟩) :: .pointer (some ⟨v0, 0, none⟩) :: .pointer (some ⟨v1, 0, none⟩) :: .pointer (some ⟨v2, 0, none⟩) :: .pointer (some ⟨v3, 0, none⟩) :: .pointer (some ⟨v4, 0, none⟩) :: .agg #[.float .f64 ra, .float .f64 rt, .float .f64 rb, .float .f64 re, .bool rd, .int .i64 rk, .bool rz] :: .agg #[.int .i64 VA, .int .i64 VT, .int .i64 VB, .int .i64 VE, .bool rd, .int .i64 VK, .bool rz, .int .i64 VO] :: .agg #[.float .f64 ra, .float .f64 rt, .float .f64 rb, .float .f64 re, .bool rd, .int .i64 rk, .bool rz] :: .agg #[.float .f64 ra, .float .f64 rt, .float .f64 rb, .float .f64 re, .bool rd, .int .i64 rk, .bool rz] :: .agg #[.float .f64 ra, .float .f64 rt, .float .f64 rb, .float .f64 re, .bool rd, .int .i64 rk, .bool rz] :: .agg #[.float .f64 ra, .float .f64 rt, .float .f64 rb, .float .f64 re, .bool rd, .int .i64 rk, .bool rz] :: .agg #[.float .f64 ra, .float .f64 rt, .float .f64 rb, .float .f64 re, .bool rd, .int .i64 rk, .bool rz] :: .float .f64 wx :: .float .f64 wx :: .float .f64 wx :: .float .f64 wx :: .int .i64 wy :: .pointer (some ⟨q0, 0, none⟩) :: .pointer (some ⟨q1, 1, none⟩) :: .pointer (some ⟨q2, 2, none⟩) :: .pointer (some ⟨q3, 3, none⟩) :: .pointer (some ⟨q4, 5, none⟩) :: .agg #[.float .f64 wx, .float .f64 rt, .float .f64 rb, .float .f64 re, .bool rd, .int .i64 rk, .bool rz] :: .agg #[.int .i64 X0, .int .i64 VT, .int .i64 VB, .int .i64 VE, .bool rd, .int .i64 VK, .bool rz, .int .i64 O0] :: .agg #[.float .f64 ra, .float .f64 wx, .float .f64 rb, .float .f64 re, .bool rd, .int .i64 rk, .bool rz] :: .agg #[.int .i64 VA, .int .i64 X1, .int .i64 VB, .int .i64 VE, .bool rd, .int .i64 VK, .bool rz, .int .i64 O1] :: .agg #[.float .f64 ra, .float .f64 rt, .float .f64 wx, .float .f64 re, .bool rd, .int .i64 rk, .bool rz] :: .agg #[.int .i64 VA, .int .i64 VT, .int .i64 X2, .int .i64 VE, .bool rd, .int .i64 VK, .bool rz, .int .i64 O2] :: .agg #[.float .f64 ra, .float .f64 rt, .float .f64 rb, .float .f64 wx, .bool rd, .int .i64 rk, .bool rz] :: .agg #[.int .i64 VA, .int .i64 VT, .int .i64 VB, .int .i64 X3, .bool rd, .int .i64 VK, .bool rz, .int .i64 O3] :: .agg #[.float .f64 ra, .float .f64 rt, .float .f64 rb, .float .f64 re, .bool rd, .int .i64 wy, .bool rz] :: .agg #[.int .i64 VA, .int .i64 VT, .int .i64 VB, .int .i64 VE, .bool rd, .int .i64 X4, .bool rz, .int .i64 O4] :: .pointer (some ⟨p, 0, none⟩) :: .int .i64 VA :: .pointer (some ⟨p, 1, none⟩) :: .int .i64 VT :: .pointer (some ⟨p, 2, none⟩) :: .int .i64 VB :: .pointer (some ⟨p, 3, none⟩) :: .int .i64 VE :: .pointer (some ⟨p, 5, none⟩) :: .int .i64 VK :: .pointer (some ⟨v0, 0, none⟩) :: .pointer (some ⟨v1, 1, none⟩) :: .pointer (some ⟨v2, 2, none⟩) :: .pointer (some ⟨v3, 3, none⟩) :: .pointer (some ⟨v4, 5, none⟩) :: undef :: undef :: undef :: undef :: undef :: undef :: undef :: undef :: undef :: undef :: undef :: undef :: undef :: undef :: undef :: undef :: undef :: undef :: undef :: undef :: undef :: undef :: undef :: undef :: undef :: undef :: undef :: undef :: undef :: undef :: undef :: undef :: undef :: undef :: undef :: undef :: undef :: undef :: undef :: undef :: undef :: undef :: undef :: undef :: undef :: undef :: undef :: undef :: undef :: undef :: undef :: undef :: undef :: undef :: undef :: undef :: undef :: undef :: undef :: undef :: undef :: undef :: undef :: undef :: undef :: undef :: []))) hdf hsz (fun s hs => match s, hs with
          | 0, _ => hOO 0 (by kernel_rfl)
          | 1, _ => hOO 1 (by kernel_rfl)
          | 2, _ => hOO 2 (by kernel_rfl)
          | 3, _ => hOO 3 (by kernel_rfl)
          | 4, _ => hOO 4 (by kernel_rfl)
          | 5, _ => hOO 5 (by kernel_rfl)
          | 6, _ => hOO 6 (by kernel_rfl)
          | 7, _ => hOO 7 (by kernel_rfl)
          | 8, _ => hOO 8 (by kernel_rfl)
          | 9, _ => hOO 9 (by kernel_rfl)
          | 10, _ => hOO 10 (by kernel_rfl)
          | 11, _ => hOO 11 (by kernel_rfl)
          | 12, _ => hOO 12 (by kernel_rfl)
          | 13, _ => hOO 13 (by kernel_rfl)
          | 14, _ => hOO 14 (by kernel_rfl)
          | 15, _ => hOO 15 (by kernel_rfl)
          | 16, _ => hOO 16 (by kernel_rfl)
          | 17, _ => hOO 17 (by kernel_rfl)
          | 18, _ => hOO 18 (by kernel_rfl)
          | 19, _ => hOO 19 (by kernel_rfl)
          | 20, _ => hOO 20 (by kernel_rfl)
          | 21, _ => hOO 21 (by kernel_rfl)
          | 22, _ => hOO 22 (by kernel_rfl)
          | 23, _ => hOO 23 (by kernel_rfl)
          | 24, _ => hOO 24 (by kernel_rfl)
          | 25, _ => hOO 25 (by kernel_rfl)
          | 26, _ => hOO 26 (by kernel_rfl)
          | 27, _ => hOO 27 (by kernel_rfl)
          | 28, _ => hOO 28 (by kernel_rfl)
          | 29, _ => hOO 29 (by kernel_rfl)
          | 30, _ => hOO 30 (by kernel_rfl)
          | 31, _ => hOO 31 (by kernel_rfl)
          | 32, _ => hOO 32 (by kernel_rfl)
          | 33, _ => hOO 33 (by kernel_rfl)
          | 34, _ => hOO 34 (by kernel_rfl)
          | 35, _ => hOO 35 (by kernel_rfl)
          | 36, _ => hOO 36 (by kernel_rfl)
          | 37, _ => hOO 37 (by kernel_rfl)
          | 38, _ => hOO 38 (by kernel_rfl)
          | 39, _ => hOO 39 (by kernel_rfl)
          | 40, _ => hOO 40 (by kernel_rfl)
          | 41, _ => hOO 41 (by kernel_rfl)
          | 42, _ => hOO 42 (by kernel_rfl)
          | 43, _ => hOO 43 (by kernel_rfl)
          | 44, _ => hOO 44 (by kernel_rfl)
          | 45, _ => ((hDD 0 (by omega) (by decide +kernel)) : a.tmps.getD 45 undef = cs 0).trans e0
          | 46, _ => ((hDD 1 (by omega) (by decide +kernel)) : a.tmps.getD 46 undef = cs 1).trans e1
          | 47, _ => ((hDD 2 (by omega) (by decide +kernel)) : a.tmps.getD 47 undef = cs 2).trans e2
          | 48, _ => ((hDD 3 (by omega) (by decide +kernel)) : a.tmps.getD 48 undef = cs 3).trans e3
          | 49, _ => ((hDD 4 (by omega) (by decide +kernel)) : a.tmps.getD 49 undef = cs 4).trans e4
          | 50, _ => ((hDD 5 (by omega) (by decide +kernel)) : a.tmps.getD 50 undef = cs 5).trans e5
          | 51, _ => ((hDD 6 (by omega) (by decide +kernel)) : a.tmps.getD 51 undef = cs 6).trans e6
          | 52, _ => ((hDD 7 (by omega) (by decide +kernel)) : a.tmps.getD 52 undef = cs 7).trans e7
          | 53, _ => ((hDD 8 (by omega) (by decide +kernel)) : a.tmps.getD 53 undef = cs 8).trans e8
          | 54, _ => ((hDD 9 (by omega) (by decide +kernel)) : a.tmps.getD 54 undef = cs 9).trans e9
          | 55, _ => ((hDD 10 (by omega) (by decide +kernel)) : a.tmps.getD 55 undef = cs 10).trans e10
          | 56, _ => ((hDD 12 (by omega) (by decide +kernel)) : a.tmps.getD 56 undef = cs 12).trans e12
          | 57, _ => ((hDD 14 (by omega) (by decide +kernel)) : a.tmps.getD 57 undef = cs 14).trans e14
          | 58, _ => ((hDD 16 (by omega) (by decide +kernel)) : a.tmps.getD 58 undef = cs 16).trans e16
          | 59, _ => ((hDD 18 (by omega) (by decide +kernel)) : a.tmps.getD 59 undef = cs 18).trans e18
          | 60, _ => hOO 60 (by kernel_rfl)
          | 61, _ => hOO 61 (by kernel_rfl)
          | 62, _ => hOO 62 (by kernel_rfl)
          | 63, _ => hOO 63 (by kernel_rfl)
          | 64, _ => hOO 64 (by kernel_rfl)
          | 65, _ => hOO 65 (by kernel_rfl)
          | 66, _ => hOO 66 (by kernel_rfl)
          | 67, _ => hOO 67 (by kernel_rfl)
          | 68, _ => hOO 68 (by kernel_rfl)
          | 69, _ => hOO 69 (by kernel_rfl)
          | 70, _ => hOO 70 (by kernel_rfl)
          | 71, _ => hOO 71 (by kernel_rfl)
          | 72, _ => hOO 72 (by kernel_rfl)
          | 73, _ => hOO 73 (by kernel_rfl)
          | 74, _ => hOO 74 (by kernel_rfl)
          | 75, _ => hOO 75 (by kernel_rfl)
          | 76, _ => hOO 76 (by kernel_rfl)
          | 77, _ => hOO 77 (by kernel_rfl)
          | 78, _ => hOO 78 (by kernel_rfl)
          | 79, _ => hOO 79 (by kernel_rfl)
          | 80, _ => hOO 80 (by kernel_rfl)
          | 81, _ => hOO 81 (by kernel_rfl)
          | 82, _ => hOO 82 (by kernel_rfl)
          | 83, _ => hOO 83 (by kernel_rfl)
          | 84, _ => hOO 84 (by kernel_rfl)
          | 85, _ => hOO 85 (by kernel_rfl)
          | 86, _ => hOO 86 (by kernel_rfl)
          | 87, _ => hOO 87 (by kernel_rfl)
          | 88, _ => hOO 88 (by kernel_rfl)
          | 89, _ => hOO 89 (by kernel_rfl)
          | 90, _ => hOO 90 (by kernel_rfl)
          | 91, _ => hOO 91 (by kernel_rfl)
          | 92, _ => hOO 92 (by kernel_rfl)
          | 93, _ => hOO 93 (by kernel_rfl)
          | 94, _ => hOO 94 (by kernel_rfl)
          | 95, _ => hOO 95 (by kernel_rfl)
          | 96, _ => hOO 96 (by kernel_rfl)
          | 97, _ => hOO 97 (by kernel_rfl)
          | 98, _ => hOO 98 (by kernel_rfl)
          | 99, _ => hOO 99 (by kernel_rfl)
          | 100, _ => hOO 100 (by kernel_rfl)
          | 101, _ => hOO 101 (by kernel_rfl)
          | 102, _ => hOO 102 (by kernel_rfl)
          | 103, _ => hOO 103 (by kernel_rfl)
          | 104, _ => hOO 104 (by kernel_rfl)
          | 105, _ => hOO 105 (by kernel_rfl)
          | 106, _ => hOO 106 (by kernel_rfl)
          | 107, _ => hOO 107 (by kernel_rfl)
          | 108, _ => hOO 108 (by kernel_rfl)
          | 109, _ => hOO 109 (by kernel_rfl)
          | 110, _ => hOO 110 (by kernel_rfl)
          | 111, _ => hOO 111 (by kernel_rfl)
          | 112, _ => hOO 112 (by kernel_rfl)
          | 113, _ => hOO 113 (by kernel_rfl)
          | 114, _ => hOO 114 (by kernel_rfl)
          | 115, _ => hOO 115 (by kernel_rfl)
          | 116, _ => hOO 116 (by kernel_rfl)
          | 117, _ => hOO 117 (by kernel_rfl)
          | 118, _ => hOO 118 (by kernel_rfl)
          | 119, _ => hOO 119 (by kernel_rfl)
          | 120, _ => hOO 120 (by kernel_rfl)
          | 121, _ => hOO 121 (by kernel_rfl)
          | 122, _ => hOO 122 (by kernel_rfl)
          | 123, _ => hOO 123 (by kernel_rfl)
          | 124, _ => hOO 124 (by kernel_rfl)
          | 125, _ => hOO 125 (by kernel_rfl)
          | (k + 126), h => absurd h (by simp))
        have A6 : Below W.heap.size W w2 := Below.trans (show Below W.heap.size W w5.drew from by (repeat (first | (with_reducible exact Below.refl _ _) | (with_reducible assumption) | (with_reducible refine Near.up _ ?_) | (with_reducible refine Below.drew ?_) | (with_reducible refine below_alloc_on ?_ _) | (with_reducible refine below_set_on ?_ (by first | (simp; done) | (simp; omega) | omega) _)))) (hE.mono hBW)
        have P6 : Box w2 p #[.int .i64 VA, .int .i64 VT, .int .i64 VB, .int .i64 VE, .bool rd, .int .i64 VK, .bool rz, .int .i64 VO] := box_in HP hE hp
        have Y0 : Box w2 v0 #[.int .i64 VA, .int .i64 VT, .int .i64 VB, .int .i64 VE, .bool rd, .int .i64 VK, .bool rz, .int .i64 O0] := Y0
        have Y1 : Box w2 v1 #[.int .i64 VA, .int .i64 VT, .int .i64 VB, .int .i64 VE, .bool rd, .int .i64 VK, .bool rz, .int .i64 O1] := Y1
        have Y2 : Box w2 v2 #[.int .i64 VA, .int .i64 VT, .int .i64 VB, .int .i64 VE, .bool rd, .int .i64 VK, .bool rz, .int .i64 O2] := Y2
        have Y3 : Box w2 v3 #[.int .i64 VA, .int .i64 VT, .int .i64 VB, .int .i64 VE, .bool rd, .int .i64 VK, .bool rz, .int .i64 O3] := Y3
        have Y4 : Box w2 v4 #[.int .i64 VA, .int .i64 VT, .int .i64 VB, .int .i64 VE, .bool rd, .int .i64 VK, .bool rz, .int .i64 O4] := Y4
        clear hOO hDD hO hE f0 f1 f2 f3 f4 f0' f1' f2' f3' f4' g0 g1 g2 g3 g4 hG hq e0 e1 e2 e3 e4 e5 e6 e7 e8 e9 e10 e12 e14 e16 e18 A5 P5 V0 V1 V2 V3 V4 HP S5
        have dv : ¬ v1 = v0 ∧ ¬ v2 = v0 ∧ ¬ v3 = v0 ∧ ¬ v4 = v0 ∧ ¬ v0 = v1 ∧ ¬ v2 = v1 ∧ ¬ v3 = v1 ∧ ¬ v4 = v1 ∧ ¬ v0 = v2 ∧ ¬ v1 = v2 ∧ ¬ v3 = v2 ∧ ¬ v4 = v2 ∧ ¬ v0 = v3 ∧ ¬ v1 = v3 ∧ ¬ v2 = v3 ∧ ¬ v4 = v3 ∧ ¬ v0 = v4 ∧ ¬ v1 = v4 ∧ ¬ v2 = v4 ∧ ¬ v3 = v4 := by omega
        obtain ⟨d0, d1, d2, d3, d4, d5, d6, d7, d8, d9, d10, d11, d12, d13, d14, d15, d16, d17, d18, d19⟩ := dv
        have hpv : ¬ p = v0 ∧ ¬ p = v1 ∧ ¬ p = v2 ∧ ¬ p = v3 ∧ ¬ p = v4 ∧ ¬ v0 = p ∧ ¬ v1 = p ∧ ¬ v2 = p ∧ ¬ v3 = p ∧ ¬ v4 = p := by omega
        obtain ⟨np0, np1, np2, np3, np4, nr0, nr1, nr2, nr3, nr4⟩ := hpv
        clear m01 m02 m03 m04 m10 m12 m13 m14 m20 m21 m23 m24 m30 m31 m32 m34 m40 m41 m42 m43 c0 c1 c2 c3 c4 hp hBW l0 l1 l2 l3 l4 oq0 oq1 oq2 oq3 oq4
        have lp := P6.1
        have cp := P6.2.1
        have fp := P6.2.2
        have lv := Y0.1
        have cv := Y0.2.1
        have fv := Y0.2.2
        go_upto_region 7 with (fail)
        refine at_world (fun w => Below W.heap.size W w ∧ Box w p #[.int .i64 VA, .int .i64 VT, .int .i64 VB, .int .i64 VE, .bool rd, .int .i64 VK, .bool rz, .int .i64 VO] ∧ Box w v0 #[.int .i64 VA, .int .i64 VT, .int .i64 VB, .int .i64 VE, .bool rd, .int .i64 VK, .bool rz, .int .i64 VO] ∧ Box w v1 #[.int .i64 VA, .int .i64 VT, .int .i64 VB, .int .i64 VE, .bool rd, .int .i64 VK, .bool rz, .int .i64 O1] ∧ Box w v2 #[.int .i64 VA, .int .i64 VT, .int .i64 VB, .int .i64 VE, .bool rd, .int .i64 VK, .bool rz, .int .i64 O2] ∧ Box w v3 #[.int .i64 VA, .int .i64 VT, .int .i64 VB, .int .i64 VE, .bool rd, .int .i64 VK, .bool rz, .int .i64 O3] ∧ Box w v4 #[.int .i64 VA, .int .i64 VT, .int .i64 VB, .int .i64 VE, .bool rd, .int .i64 VK, .bool rz, .int .i64 O4]) ⟨by (repeat (first | (with_reducible exact Below.refl _ _) | (with_reducible assumption) | (with_reducible refine Near.up _ ?_) | (with_reducible refine Below.drew ?_) | (with_reducible refine below_alloc_on ?_ _) | (with_reducible refine below_set_on ?_ (by first | (simp; done) | (simp; omega) | omega) _))), by (repeat (first | (with_reducible assumption) | (with_reducible exact box_new _ _ _) | ((with_reducible apply box_at); (first | (with_reducible rfl) | (simp <;> omega))) | (with_reducible apply Box.drew) | (with_reducible apply Box.drewN) | (with_reducible apply Box.near) | (with_reducible apply Box.alloc) | ((with_reducible apply box_far); (first | assumption | omega | (simp <;> omega))) | ((with_reducible apply Box.one_set); (with_reducible assumption)) | ((with_reducible apply Box.two_set); (with_reducible assumption)) | ((with_reducible apply Box.three_set); (with_reducible assumption)) | (with_reducible apply Box.set) | (simp only [List.size_toArray, List.length_cons, List.length_nil, Array.size_setIfInBounds] <;> omega))), box_cast (by (repeat (first | (with_reducible assumption) | (with_reducible exact box_new _ _ _) | ((with_reducible apply box_at); (first | (with_reducible rfl) | (simp <;> omega))) | (with_reducible apply Box.drew) | (with_reducible apply Box.drewN) | (with_reducible apply Box.near) | (with_reducible apply Box.alloc) | ((with_reducible apply box_far); (first | assumption | omega | (simp <;> omega))) | ((with_reducible apply Box.one_set); (with_reducible assumption)) | ((with_reducible apply Box.two_set); (with_reducible assumption)) | ((with_reducible apply Box.three_set); (with_reducible assumption)) | (with_reducible apply Box.set) | (simp only [List.size_toArray, List.length_cons, List.length_nil, Array.size_setIfInBounds] <;> omega)))) (by first | rfl | simp), box_cast (by (repeat (first | (with_reducible assumption) | (with_reducible exact box_new _ _ _) | ((with_reducible apply box_at); (first | (with_reducible rfl) | (simp <;> omega))) | (with_reducible apply Box.drew) | (with_reducible apply Box.drewN) | (with_reducible apply Box.near) | (with_reducible apply Box.alloc) | ((with_reducible apply box_far); (first | assumption | omega | (simp <;> omega))) | ((with_reducible apply Box.one_set); (with_reducible assumption)) | ((with_reducible apply Box.two_set); (with_reducible assumption)) | ((with_reducible apply Box.three_set); (with_reducible assumption)) | (with_reducible apply Box.set) | (simp only [List.size_toArray, List.length_cons, List.length_nil, Array.size_setIfInBounds] <;> omega)))) (by first | rfl | simp), box_cast (by (repeat (first | (with_reducible assumption) | (with_reducible exact box_new _ _ _) | ((with_reducible apply box_at); (first | (with_reducible rfl) | (simp <;> omega))) | (with_reducible apply Box.drew) | (with_reducible apply Box.drewN) | (with_reducible apply Box.near) | (with_reducible apply Box.alloc) | ((with_reducible apply box_far); (first | assumption | omega | (simp <;> omega))) | ((with_reducible apply Box.one_set); (with_reducible assumption)) | ((with_reducible apply Box.two_set); (with_reducible assumption)) | ((with_reducible apply Box.three_set); (with_reducible assumption)) | (with_reducible apply Box.set) | (simp only [List.size_toArray, List.length_cons, List.length_nil, Array.size_setIfInBounds] <;> omega)))) (by first | rfl | simp), box_cast (by (repeat (first | (with_reducible assumption) | (with_reducible exact box_new _ _ _) | ((with_reducible apply box_at); (first | (with_reducible rfl) | (simp <;> omega))) | (with_reducible apply Box.drew) | (with_reducible apply Box.drewN) | (with_reducible apply Box.near) | (with_reducible apply Box.alloc) | ((with_reducible apply box_far); (first | assumption | omega | (simp <;> omega))) | ((with_reducible apply Box.one_set); (with_reducible assumption)) | ((with_reducible apply Box.two_set); (with_reducible assumption)) | ((with_reducible apply Box.three_set); (with_reducible assumption)) | (with_reducible apply Box.set) | (simp only [List.size_toArray, List.length_cons, List.length_nil, Array.size_setIfInBounds] <;> omega)))) (by first | rfl | simp), box_cast (by (repeat (first | (with_reducible assumption) | (with_reducible exact box_new _ _ _) | ((with_reducible apply box_at); (first | (with_reducible rfl) | (simp <;> omega))) | (with_reducible apply Box.drew) | (with_reducible apply Box.drewN) | (with_reducible apply Box.near) | (with_reducible apply Box.alloc) | ((with_reducible apply box_far); (first | assumption | omega | (simp <;> omega))) | ((with_reducible apply Box.one_set); (with_reducible assumption)) | ((with_reducible apply Box.two_set); (with_reducible assumption)) | ((with_reducible apply Box.three_set); (with_reducible assumption)) | (with_reducible apply Box.set) | (simp only [List.size_toArray, List.length_cons, List.length_nil, Array.size_setIfInBounds] <;> omega)))) (by first | rfl | simp)⟩ ?_
        clear A6 P6 Y0 Y1 Y2 Y3 Y4 lp cp fp lv cv fv
        rintro w7 ⟨A6, P6, Y0, Y1, Y2, Y3, Y4⟩
        have lp := P6.1
        have cp := P6.2.1
        have fp := P6.2.2
        have lv := Y1.1
        have cv := Y1.2.1
        have fv := Y1.2.2
        go_upto_region 8 with (fail)
        refine at_world (fun w => Below W.heap.size W w ∧ Box w p #[.int .i64 VA, .int .i64 VT, .int .i64 VB, .int .i64 VE, .bool rd, .int .i64 VK, .bool rz, .int .i64 VO] ∧ Box w v0 #[.int .i64 VA, .int .i64 VT, .int .i64 VB, .int .i64 VE, .bool rd, .int .i64 VK, .bool rz, .int .i64 VO] ∧ Box w v1 #[.int .i64 VA, .int .i64 VT, .int .i64 VB, .int .i64 VE, .bool rd, .int .i64 VK, .bool rz, .int .i64 VO] ∧ Box w v2 #[.int .i64 VA, .int .i64 VT, .int .i64 VB, .int .i64 VE, .bool rd, .int .i64 VK, .bool rz, .int .i64 O2] ∧ Box w v3 #[.int .i64 VA, .int .i64 VT, .int .i64 VB, .int .i64 VE, .bool rd, .int .i64 VK, .bool rz, .int .i64 O3] ∧ Box w v4 #[.int .i64 VA, .int .i64 VT, .int .i64 VB, .int .i64 VE, .bool rd, .int .i64 VK, .bool rz, .int .i64 O4]) ⟨by (repeat (first | (with_reducible exact Below.refl _ _) | (with_reducible assumption) | (with_reducible refine Near.up _ ?_) | (with_reducible refine Below.drew ?_) | (with_reducible refine below_alloc_on ?_ _) | (with_reducible refine below_set_on ?_ (by first | (simp; done) | (simp; omega) | omega) _))), by (repeat (first | (with_reducible assumption) | (with_reducible exact box_new _ _ _) | ((with_reducible apply box_at); (first | (with_reducible rfl) | (simp <;> omega))) | (with_reducible apply Box.drew) | (with_reducible apply Box.drewN) | (with_reducible apply Box.near) | (with_reducible apply Box.alloc) | ((with_reducible apply box_far); (first | assumption | omega | (simp <;> omega))) | ((with_reducible apply Box.one_set); (with_reducible assumption)) | ((with_reducible apply Box.two_set); (with_reducible assumption)) | ((with_reducible apply Box.three_set); (with_reducible assumption)) | (with_reducible apply Box.set) | (simp only [List.size_toArray, List.length_cons, List.length_nil, Array.size_setIfInBounds] <;> omega))), box_cast (by (repeat (first | (with_reducible assumption) | (with_reducible exact box_new _ _ _) | ((with_reducible apply box_at); (first | (with_reducible rfl) | (simp <;> omega))) | (with_reducible apply Box.drew) | (with_reducible apply Box.drewN) | (with_reducible apply Box.near) | (with_reducible apply Box.alloc) | ((with_reducible apply box_far); (first | assumption | omega | (simp <;> omega))) | ((with_reducible apply Box.one_set); (with_reducible assumption)) | ((with_reducible apply Box.two_set); (with_reducible assumption)) | ((with_reducible apply Box.three_set); (with_reducible assumption)) | (with_reducible apply Box.set) | (simp only [List.size_toArray, List.length_cons, List.length_nil, Array.size_setIfInBounds] <;> omega)))) (by first | rfl | simp), box_cast (by (repeat (first | (with_reducible assumption) | (with_reducible exact box_new _ _ _) | ((with_reducible apply box_at); (first | (with_reducible rfl) | (simp <;> omega))) | (with_reducible apply Box.drew) | (with_reducible apply Box.drewN) | (with_reducible apply Box.near) | (with_reducible apply Box.alloc) | ((with_reducible apply box_far); (first | assumption | omega | (simp <;> omega))) | ((with_reducible apply Box.one_set); (with_reducible assumption)) | ((with_reducible apply Box.two_set); (with_reducible assumption)) | ((with_reducible apply Box.three_set); (with_reducible assumption)) | (with_reducible apply Box.set) | (simp only [List.size_toArray, List.length_cons, List.length_nil, Array.size_setIfInBounds] <;> omega)))) (by first | rfl | simp), box_cast (by (repeat (first | (with_reducible assumption) | (with_reducible exact box_new _ _ _) | ((with_reducible apply box_at); (first | (with_reducible rfl) | (simp <;> omega))) | (with_reducible apply Box.drew) | (with_reducible apply Box.drewN) | (with_reducible apply Box.near) | (with_reducible apply Box.alloc) | ((with_reducible apply box_far); (first | assumption | omega | (simp <;> omega))) | ((with_reducible apply Box.one_set); (with_reducible assumption)) | ((with_reducible apply Box.two_set); (with_reducible assumption)) | ((with_reducible apply Box.three_set); (with_reducible assumption)) | (with_reducible apply Box.set) | (simp only [List.size_toArray, List.length_cons, List.length_nil, Array.size_setIfInBounds] <;> omega)))) (by first | rfl | simp), box_cast (by (repeat (first | (with_reducible assumption) | (with_reducible exact box_new _ _ _) | ((with_reducible apply box_at); (first | (with_reducible rfl) | (simp <;> omega))) | (with_reducible apply Box.drew) | (with_reducible apply Box.drewN) | (with_reducible apply Box.near) | (with_reducible apply Box.alloc) | ((with_reducible apply box_far); (first | assumption | omega | (simp <;> omega))) | ((with_reducible apply Box.one_set); (with_reducible assumption)) | ((with_reducible apply Box.two_set); (with_reducible assumption)) | ((with_reducible apply Box.three_set); (with_reducible assumption)) | (with_reducible apply Box.set) | (simp only [List.size_toArray, List.length_cons, List.length_nil, Array.size_setIfInBounds] <;> omega)))) (by first | rfl | simp), box_cast (by (repeat (first | (with_reducible assumption) | (with_reducible exact box_new _ _ _) | ((with_reducible apply box_at); (first | (with_reducible rfl) | (simp <;> omega))) | (with_reducible apply Box.drew) | (with_reducible apply Box.drewN) | (with_reducible apply Box.near) | (with_reducible apply Box.alloc) | ((with_reducible apply box_far); (first | assumption | omega | (simp <;> omega))) | ((with_reducible apply Box.one_set); (with_reducible assumption)) | ((with_reducible apply Box.two_set); (with_reducible assumption)) | ((with_reducible apply Box.three_set); (with_reducible assumption)) | (with_reducible apply Box.set) | (simp only [List.size_toArray, List.length_cons, List.length_nil, Array.size_setIfInBounds] <;> omega)))) (by first | rfl | simp)⟩ ?_
        clear A6 P6 Y0 Y1 Y2 Y3 Y4 lp cp fp lv cv fv
        rintro w8 ⟨A6, P6, Y0, Y1, Y2, Y3, Y4⟩
        have lp := P6.1
        have cp := P6.2.1
        have fp := P6.2.2
        have lv := Y2.1
        have cv := Y2.2.1
        have fv := Y2.2.2
        go_upto_region 9 with (fail)
        refine at_world (fun w => Below W.heap.size W w ∧ Box w p #[.int .i64 VA, .int .i64 VT, .int .i64 VB, .int .i64 VE, .bool rd, .int .i64 VK, .bool rz, .int .i64 VO] ∧ Box w v0 #[.int .i64 VA, .int .i64 VT, .int .i64 VB, .int .i64 VE, .bool rd, .int .i64 VK, .bool rz, .int .i64 VO] ∧ Box w v1 #[.int .i64 VA, .int .i64 VT, .int .i64 VB, .int .i64 VE, .bool rd, .int .i64 VK, .bool rz, .int .i64 VO] ∧ Box w v2 #[.int .i64 VA, .int .i64 VT, .int .i64 VB, .int .i64 VE, .bool rd, .int .i64 VK, .bool rz, .int .i64 VO] ∧ Box w v3 #[.int .i64 VA, .int .i64 VT, .int .i64 VB, .int .i64 VE, .bool rd, .int .i64 VK, .bool rz, .int .i64 O3] ∧ Box w v4 #[.int .i64 VA, .int .i64 VT, .int .i64 VB, .int .i64 VE, .bool rd, .int .i64 VK, .bool rz, .int .i64 O4]) ⟨by (repeat (first | (with_reducible exact Below.refl _ _) | (with_reducible assumption) | (with_reducible refine Near.up _ ?_) | (with_reducible refine Below.drew ?_) | (with_reducible refine below_alloc_on ?_ _) | (with_reducible refine below_set_on ?_ (by first | (simp; done) | (simp; omega) | omega) _))), by (repeat (first | (with_reducible assumption) | (with_reducible exact box_new _ _ _) | ((with_reducible apply box_at); (first | (with_reducible rfl) | (simp <;> omega))) | (with_reducible apply Box.drew) | (with_reducible apply Box.drewN) | (with_reducible apply Box.near) | (with_reducible apply Box.alloc) | ((with_reducible apply box_far); (first | assumption | omega | (simp <;> omega))) | ((with_reducible apply Box.one_set); (with_reducible assumption)) | ((with_reducible apply Box.two_set); (with_reducible assumption)) | ((with_reducible apply Box.three_set); (with_reducible assumption)) | (with_reducible apply Box.set) | (simp only [List.size_toArray, List.length_cons, List.length_nil, Array.size_setIfInBounds] <;> omega))), box_cast (by (repeat (first | (with_reducible assumption) | (with_reducible exact box_new _ _ _) | ((with_reducible apply box_at); (first | (with_reducible rfl) | (simp <;> omega))) | (with_reducible apply Box.drew) | (with_reducible apply Box.drewN) | (with_reducible apply Box.near) | (with_reducible apply Box.alloc) | ((with_reducible apply box_far); (first | assumption | omega | (simp <;> omega))) | ((with_reducible apply Box.one_set); (with_reducible assumption)) | ((with_reducible apply Box.two_set); (with_reducible assumption)) | ((with_reducible apply Box.three_set); (with_reducible assumption)) | (with_reducible apply Box.set) | (simp only [List.size_toArray, List.length_cons, List.length_nil, Array.size_setIfInBounds] <;> omega)))) (by first | rfl | simp), box_cast (by (repeat (first | (with_reducible assumption) | (with_reducible exact box_new _ _ _) | ((with_reducible apply box_at); (first | (with_reducible rfl) | (simp <;> omega))) | (with_reducible apply Box.drew) | (with_reducible apply Box.drewN) | (with_reducible apply Box.near) | (with_reducible apply Box.alloc) | ((with_reducible apply box_far); (first | assumption | omega | (simp <;> omega))) | ((with_reducible apply Box.one_set); (with_reducible assumption)) | ((with_reducible apply Box.two_set); (with_reducible assumption)) | ((with_reducible apply Box.three_set); (with_reducible assumption)) | (with_reducible apply Box.set) | (simp only [List.size_toArray, List.length_cons, List.length_nil, Array.size_setIfInBounds] <;> omega)))) (by first | rfl | simp), box_cast (by (repeat (first | (with_reducible assumption) | (with_reducible exact box_new _ _ _) | ((with_reducible apply box_at); (first | (with_reducible rfl) | (simp <;> omega))) | (with_reducible apply Box.drew) | (with_reducible apply Box.drewN) | (with_reducible apply Box.near) | (with_reducible apply Box.alloc) | ((with_reducible apply box_far); (first | assumption | omega | (simp <;> omega))) | ((with_reducible apply Box.one_set); (with_reducible assumption)) | ((with_reducible apply Box.two_set); (with_reducible assumption)) | ((with_reducible apply Box.three_set); (with_reducible assumption)) | (with_reducible apply Box.set) | (simp only [List.size_toArray, List.length_cons, List.length_nil, Array.size_setIfInBounds] <;> omega)))) (by first | rfl | simp), box_cast (by (repeat (first | (with_reducible assumption) | (with_reducible exact box_new _ _ _) | ((with_reducible apply box_at); (first | (with_reducible rfl) | (simp <;> omega))) | (with_reducible apply Box.drew) | (with_reducible apply Box.drewN) | (with_reducible apply Box.near) | (with_reducible apply Box.alloc) | ((with_reducible apply box_far); (first | assumption | omega | (simp <;> omega))) | ((with_reducible apply Box.one_set); (with_reducible assumption)) | ((with_reducible apply Box.two_set); (with_reducible assumption)) | ((with_reducible apply Box.three_set); (with_reducible assumption)) | (with_reducible apply Box.set) | (simp only [List.size_toArray, List.length_cons, List.length_nil, Array.size_setIfInBounds] <;> omega)))) (by first | rfl | simp), box_cast (by (repeat (first | (with_reducible assumption) | (with_reducible exact box_new _ _ _) | ((with_reducible apply box_at); (first | (with_reducible rfl) | (simp <;> omega))) | (with_reducible apply Box.drew) | (with_reducible apply Box.drewN) | (with_reducible apply Box.near) | (with_reducible apply Box.alloc) | ((with_reducible apply box_far); (first | assumption | omega | (simp <;> omega))) | ((with_reducible apply Box.one_set); (with_reducible assumption)) | ((with_reducible apply Box.two_set); (with_reducible assumption)) | ((with_reducible apply Box.three_set); (with_reducible assumption)) | (with_reducible apply Box.set) | (simp only [List.size_toArray, List.length_cons, List.length_nil, Array.size_setIfInBounds] <;> omega)))) (by first | rfl | simp)⟩ ?_
        clear A6 P6 Y0 Y1 Y2 Y3 Y4 lp cp fp lv cv fv
        rintro w9 ⟨A6, P6, Y0, Y1, Y2, Y3, Y4⟩
        have lp := P6.1
        have cp := P6.2.1
        have fp := P6.2.2
        have lv := Y3.1
        have cv := Y3.2.1
        have fv := Y3.2.2
        go_upto_region 10 with (fail)
        refine at_world (fun w => Below W.heap.size W w ∧ Box w p #[.int .i64 VA, .int .i64 VT, .int .i64 VB, .int .i64 VE, .bool rd, .int .i64 VK, .bool rz, .int .i64 VO] ∧ Box w v0 #[.int .i64 VA, .int .i64 VT, .int .i64 VB, .int .i64 VE, .bool rd, .int .i64 VK, .bool rz, .int .i64 VO] ∧ Box w v1 #[.int .i64 VA, .int .i64 VT, .int .i64 VB, .int .i64 VE, .bool rd, .int .i64 VK, .bool rz, .int .i64 VO] ∧ Box w v2 #[.int .i64 VA, .int .i64 VT, .int .i64 VB, .int .i64 VE, .bool rd, .int .i64 VK, .bool rz, .int .i64 VO] ∧ Box w v3 #[.int .i64 VA, .int .i64 VT, .int .i64 VB, .int .i64 VE, .bool rd, .int .i64 VK, .bool rz, .int .i64 VO] ∧ Box w v4 #[.int .i64 VA, .int .i64 VT, .int .i64 VB, .int .i64 VE, .bool rd, .int .i64 VK, .bool rz, .int .i64 O4]) ⟨by (repeat (first | (with_reducible exact Below.refl _ _) | (with_reducible assumption) | (with_reducible refine Near.up _ ?_) | (with_reducible refine Below.drew ?_) | (with_reducible refine below_alloc_on ?_ _) | (with_reducible refine below_set_on ?_ (by first | (simp; done) | (simp; omega) | omega) _))), by (repeat (first | (with_reducible assumption) | (with_reducible exact box_new _ _ _) | ((with_reducible apply box_at); (first | (with_reducible rfl) | (simp <;> omega))) | (with_reducible apply Box.drew) | (with_reducible apply Box.drewN) | (with_reducible apply Box.near) | (with_reducible apply Box.alloc) | ((with_reducible apply box_far); (first | assumption | omega | (simp <;> omega))) | ((with_reducible apply Box.one_set); (with_reducible assumption)) | ((with_reducible apply Box.two_set); (with_reducible assumption)) | ((with_reducible apply Box.three_set); (with_reducible assumption)) | (with_reducible apply Box.set) | (simp only [List.size_toArray, List.length_cons, List.length_nil, Array.size_setIfInBounds] <;> omega))), box_cast (by (repeat (first | (with_reducible assumption) | (with_reducible exact box_new _ _ _) | ((with_reducible apply box_at); (first | (with_reducible rfl) | (simp <;> omega))) | (with_reducible apply Box.drew) | (with_reducible apply Box.drewN) | (with_reducible apply Box.near) | (with_reducible apply Box.alloc) | ((with_reducible apply box_far); (first | assumption | omega | (simp <;> omega))) | ((with_reducible apply Box.one_set); (with_reducible assumption)) | ((with_reducible apply Box.two_set); (with_reducible assumption)) | ((with_reducible apply Box.three_set); (with_reducible assumption)) | (with_reducible apply Box.set) | (simp only [List.size_toArray, List.length_cons, List.length_nil, Array.size_setIfInBounds] <;> omega)))) (by first | rfl | simp), box_cast (by (repeat (first | (with_reducible assumption) | (with_reducible exact box_new _ _ _) | ((with_reducible apply box_at); (first | (with_reducible rfl) | (simp <;> omega))) | (with_reducible apply Box.drew) | (with_reducible apply Box.drewN) | (with_reducible apply Box.near) | (with_reducible apply Box.alloc) | ((with_reducible apply box_far); (first | assumption | omega | (simp <;> omega))) | ((with_reducible apply Box.one_set); (with_reducible assumption)) | ((with_reducible apply Box.two_set); (with_reducible assumption)) | ((with_reducible apply Box.three_set); (with_reducible assumption)) | (with_reducible apply Box.set) | (simp only [List.size_toArray, List.length_cons, List.length_nil, Array.size_setIfInBounds] <;> omega)))) (by first | rfl | simp), box_cast (by (repeat (first | (with_reducible assumption) | (with_reducible exact box_new _ _ _) | ((with_reducible apply box_at); (first | (with_reducible rfl) | (simp <;> omega))) | (with_reducible apply Box.drew) | (with_reducible apply Box.drewN) | (with_reducible apply Box.near) | (with_reducible apply Box.alloc) | ((with_reducible apply box_far); (first | assumption | omega | (simp <;> omega))) | ((with_reducible apply Box.one_set); (with_reducible assumption)) | ((with_reducible apply Box.two_set); (with_reducible assumption)) | ((with_reducible apply Box.three_set); (with_reducible assumption)) | (with_reducible apply Box.set) | (simp only [List.size_toArray, List.length_cons, List.length_nil, Array.size_setIfInBounds] <;> omega)))) (by first | rfl | simp), box_cast (by (repeat (first | (with_reducible assumption) | (with_reducible exact box_new _ _ _) | ((with_reducible apply box_at); (first | (with_reducible rfl) | (simp <;> omega))) | (with_reducible apply Box.drew) | (with_reducible apply Box.drewN) | (with_reducible apply Box.near) | (with_reducible apply Box.alloc) | ((with_reducible apply box_far); (first | assumption | omega | (simp <;> omega))) | ((with_reducible apply Box.one_set); (with_reducible assumption)) | ((with_reducible apply Box.two_set); (with_reducible assumption)) | ((with_reducible apply Box.three_set); (with_reducible assumption)) | (with_reducible apply Box.set) | (simp only [List.size_toArray, List.length_cons, List.length_nil, Array.size_setIfInBounds] <;> omega)))) (by first | rfl | simp), box_cast (by (repeat (first | (with_reducible assumption) | (with_reducible exact box_new _ _ _) | ((with_reducible apply box_at); (first | (with_reducible rfl) | (simp <;> omega))) | (with_reducible apply Box.drew) | (with_reducible apply Box.drewN) | (with_reducible apply Box.near) | (with_reducible apply Box.alloc) | ((with_reducible apply box_far); (first | assumption | omega | (simp <;> omega))) | ((with_reducible apply Box.one_set); (with_reducible assumption)) | ((with_reducible apply Box.two_set); (with_reducible assumption)) | ((with_reducible apply Box.three_set); (with_reducible assumption)) | (with_reducible apply Box.set) | (simp only [List.size_toArray, List.length_cons, List.length_nil, Array.size_setIfInBounds] <;> omega)))) (by first | rfl | simp)⟩ ?_
        clear A6 P6 Y0 Y1 Y2 Y3 Y4 lp cp fp lv cv fv
        rintro w10 ⟨A6, P6, Y0, Y1, Y2, Y3, Y4⟩
        have lp := P6.1
        have cp := P6.2.1
        have fp := P6.2.2
        have lv := Y4.1
        have cv := Y4.2.1
        have fv := Y4.2.2
        go_upto_region 11 with (fail)
        refine at_world (fun w => Below W.heap.size W w ∧ Box w p #[.int .i64 VA, .int .i64 VT, .int .i64 VB, .int .i64 VE, .bool rd, .int .i64 VK, .bool rz, .int .i64 VO] ∧ Box w v0 #[.int .i64 VA, .int .i64 VT, .int .i64 VB, .int .i64 VE, .bool rd, .int .i64 VK, .bool rz, .int .i64 VO] ∧ Box w v1 #[.int .i64 VA, .int .i64 VT, .int .i64 VB, .int .i64 VE, .bool rd, .int .i64 VK, .bool rz, .int .i64 VO] ∧ Box w v2 #[.int .i64 VA, .int .i64 VT, .int .i64 VB, .int .i64 VE, .bool rd, .int .i64 VK, .bool rz, .int .i64 VO] ∧ Box w v3 #[.int .i64 VA, .int .i64 VT, .int .i64 VB, .int .i64 VE, .bool rd, .int .i64 VK, .bool rz, .int .i64 VO] ∧ Box w v4 #[.int .i64 VA, .int .i64 VT, .int .i64 VB, .int .i64 VE, .bool rd, .int .i64 VK, .bool rz, .int .i64 VO]) ⟨by (repeat (first | (with_reducible exact Below.refl _ _) | (with_reducible assumption) | (with_reducible refine Near.up _ ?_) | (with_reducible refine Below.drew ?_) | (with_reducible refine below_alloc_on ?_ _) | (with_reducible refine below_set_on ?_ (by first | (simp; done) | (simp; omega) | omega) _))), by (repeat (first | (with_reducible assumption) | (with_reducible exact box_new _ _ _) | ((with_reducible apply box_at); (first | (with_reducible rfl) | (simp <;> omega))) | (with_reducible apply Box.drew) | (with_reducible apply Box.drewN) | (with_reducible apply Box.near) | (with_reducible apply Box.alloc) | ((with_reducible apply box_far); (first | assumption | omega | (simp <;> omega))) | ((with_reducible apply Box.one_set); (with_reducible assumption)) | ((with_reducible apply Box.two_set); (with_reducible assumption)) | ((with_reducible apply Box.three_set); (with_reducible assumption)) | (with_reducible apply Box.set) | (simp only [List.size_toArray, List.length_cons, List.length_nil, Array.size_setIfInBounds] <;> omega))), box_cast (by (repeat (first | (with_reducible assumption) | (with_reducible exact box_new _ _ _) | ((with_reducible apply box_at); (first | (with_reducible rfl) | (simp <;> omega))) | (with_reducible apply Box.drew) | (with_reducible apply Box.drewN) | (with_reducible apply Box.near) | (with_reducible apply Box.alloc) | ((with_reducible apply box_far); (first | assumption | omega | (simp <;> omega))) | ((with_reducible apply Box.one_set); (with_reducible assumption)) | ((with_reducible apply Box.two_set); (with_reducible assumption)) | ((with_reducible apply Box.three_set); (with_reducible assumption)) | (with_reducible apply Box.set) | (simp only [List.size_toArray, List.length_cons, List.length_nil, Array.size_setIfInBounds] <;> omega)))) (by first | rfl | simp), box_cast (by (repeat (first | (with_reducible assumption) | (with_reducible exact box_new _ _ _) | ((with_reducible apply box_at); (first | (with_reducible rfl) | (simp <;> omega))) | (with_reducible apply Box.drew) | (with_reducible apply Box.drewN) | (with_reducible apply Box.near) | (with_reducible apply Box.alloc) | ((with_reducible apply box_far); (first | assumption | omega | (simp <;> omega))) | ((with_reducible apply Box.one_set); (with_reducible assumption)) | ((with_reducible apply Box.two_set); (with_reducible assumption)) | ((with_reducible apply Box.three_set); (with_reducible assumption)) | (with_reducible apply Box.set) | (simp only [List.size_toArray, List.length_cons, List.length_nil, Array.size_setIfInBounds] <;> omega)))) (by first | rfl | simp), box_cast (by (repeat (first | (with_reducible assumption) | (with_reducible exact box_new _ _ _) | ((with_reducible apply box_at); (first | (with_reducible rfl) | (simp <;> omega))) | (with_reducible apply Box.drew) | (with_reducible apply Box.drewN) | (with_reducible apply Box.near) | (with_reducible apply Box.alloc) | ((with_reducible apply box_far); (first | assumption | omega | (simp <;> omega))) | ((with_reducible apply Box.one_set); (with_reducible assumption)) | ((with_reducible apply Box.two_set); (with_reducible assumption)) | ((with_reducible apply Box.three_set); (with_reducible assumption)) | (with_reducible apply Box.set) | (simp only [List.size_toArray, List.length_cons, List.length_nil, Array.size_setIfInBounds] <;> omega)))) (by first | rfl | simp), box_cast (by (repeat (first | (with_reducible assumption) | (with_reducible exact box_new _ _ _) | ((with_reducible apply box_at); (first | (with_reducible rfl) | (simp <;> omega))) | (with_reducible apply Box.drew) | (with_reducible apply Box.drewN) | (with_reducible apply Box.near) | (with_reducible apply Box.alloc) | ((with_reducible apply box_far); (first | assumption | omega | (simp <;> omega))) | ((with_reducible apply Box.one_set); (with_reducible assumption)) | ((with_reducible apply Box.two_set); (with_reducible assumption)) | ((with_reducible apply Box.three_set); (with_reducible assumption)) | (with_reducible apply Box.set) | (simp only [List.size_toArray, List.length_cons, List.length_nil, Array.size_setIfInBounds] <;> omega)))) (by first | rfl | simp), box_cast (by (repeat (first | (with_reducible assumption) | (with_reducible exact box_new _ _ _) | ((with_reducible apply box_at); (first | (with_reducible rfl) | (simp <;> omega))) | (with_reducible apply Box.drew) | (with_reducible apply Box.drewN) | (with_reducible apply Box.near) | (with_reducible apply Box.alloc) | ((with_reducible apply box_far); (first | assumption | omega | (simp <;> omega))) | ((with_reducible apply Box.one_set); (with_reducible assumption)) | ((with_reducible apply Box.two_set); (with_reducible assumption)) | ((with_reducible apply Box.three_set); (with_reducible assumption)) | (with_reducible apply Box.set) | (simp only [List.size_toArray, List.length_cons, List.length_nil, Array.size_setIfInBounds] <;> omega)))) (by first | rfl | simp)⟩ ?_
        clear A6 P6 Y0 Y1 Y2 Y3 Y4 lp cp fp lv cv fv
        rintro w11 ⟨A6, P6, Y0, Y1, Y2, Y3, Y4⟩
        have lp := P6.1
        have cp := P6.2.1
        have lv0 := Y0.1
        have cv0 := Y0.2.1
        have lv1 := Y1.1
        have cv1 := Y1.2.1
        have lv2 := Y2.1
        have cv2 := Y2.2.1
        have lv3 := Y3.1
        have cv3 := Y3.2.1
        have lv4 := Y4.1
        have cv4 := Y4.2.1
        have HA := Lib.hid A6
        clear A6 P6 Y0 Y1 Y2 Y3 Y4
        go_wp2_with (go_at_call 13; refine (law11_awake _).mono ?_; rintro x w' ⟨rfl, hb⟩)
        all_goals go_ret
        all_goals exact ⟨rfl, below_call HA.out hb⟩

set_option maxRecDepth 100000 in
theorem lifted (os : Os) (started : os.Started) (H : Type) (enc : TypeId × Value → H) :
    ReturnsInHanded {} Try.checked os 6 .any (Rows.recordApartSpec.pre6 enc Try.prog Try.f6 Rows.recordApartRow.domain false) (Rows.recordApartSpec.post enc Try.prog Try.f6 false true false false) := by
  refine law_lift started (by kernel_rfl) Try.func6 rfl rfl ?_ (by kernel_rfl)
    (ChangeSpec.witness6 (enc := enc) (C := Try.checked) false ⟨#[], #[.agg #[.float .f64 0, .float .f64 0, .float .f64 0, .float .f64 0, .bool false, .int .i64 0, .bool false], .float .f64 0, .int .i64 0], []⟩ 8 (by kernel_rfl) (by kernel_rfl) (by kernel_rfl) (by kernel_rfl)) ?_
  · intro ds hl
    match ds, hl with
    | [_, _, _], _ => exact ⟨rfl, rfl, rfl⟩
  · intro W base args ds p hval hA hlt hwt
    rw [Try.params6] at hA hval hwt
    obtain ⟨v0, vs0, d0, ds0, p0, q0, hargs, rfl, rfl, h0, r0⟩ := trodAll_cons hA
    obtain ⟨v1, vs1, d1, ds1, p1, q1, rfl, rfl, rfl, h1, r1⟩ := trodAll_cons r0
    obtain ⟨v2, vs2, d2, ds2, p2, q2, rfl, rfl, rfl, h2, r2⟩ := trodAll_cons r1
    obtain ⟨rfl, rfl, rfl⟩ := trodAll_nil r2
    obtain rfl : args = #[v0, v1, v2] := by cases args; simp_all
    obtain ⟨cs0, rfl, l0, k0⟩ := open_leaves 5 [.float .f64, .float .f64, .float .f64, .float .f64, .bool, .int .i64, .bool] (by kernel_rfl) (by kernel_rfl) (hval 0 54 v0 rfl rfl) h0
    match cs0, l0, k0 with
    | [y0_0, y0_1, y0_2, y0_3, y0_4, y0_5, y0_6], _, k0 =>
    obtain ⟨x0_0, e0_0, w0_0⟩ : leafIs (.float .f64) y0_0 := k0 0 _ rfl
    subst e0_0
    obtain ⟨x0_1, e0_1, w0_1⟩ : leafIs (.float .f64) y0_1 := k0 1 _ rfl
    subst e0_1
    obtain ⟨x0_2, e0_2, w0_2⟩ : leafIs (.float .f64) y0_2 := k0 2 _ rfl
    subst e0_2
    obtain ⟨x0_3, e0_3, w0_3⟩ : leafIs (.float .f64) y0_3 := k0 3 _ rfl
    subst e0_3
    obtain ⟨x0_4, e0_4⟩ : leafIs (.bool) y0_4 := k0 4 _ rfl
    subst e0_4
    obtain ⟨x0_5, e0_5, w0_5⟩ : leafIs (.int .i64) y0_5 := k0 5 _ rfl
    subst e0_5
    obtain ⟨x0_6, e0_6⟩ : leafIs (.bool) y0_6 := k0 6 _ rfl
    subst e0_6
    obtain ⟨a1, rfl, rfl, rfl, w1⟩ := open_float Try.underlying52 (hval 1 52 v1 rfl rfl) h1
    obtain ⟨a2, rfl, rfl, rfl, w2⟩ := open_int Try.underlying3 (hval 2 3 v2 rfl rfl) h2
    exact walk x0_0 w0_0 x0_1 w0_1 x0_2 w0_2 x0_3 w0_3 x0_4 x0_5 w0_5 x0_6 a1 w1 a2 w2 W

theorem over : Rows.recordApartRow.holds Try.pinned (OpenSpec.ofChange Rows.recordApartSpec) :=
  OpenClaim.holds_of_wide 6 Try.f6 rfl rfl rfl rfl rfl rfl rfl ⟨rfl, rfl, rfl, rfl, rfl⟩ rfl rfl rfl rfl rfl (by kernel_rfl) Try.func6 (by kernel_rfl)
    (of_decide_eq_true (by kernel_rfl)) (by unfold Func.isWrapper; first | (rw [if_pos (by decide +kernel)]; kernel_rfl) | (rw [if_neg (by decide +kernel)]; exact ⟨rfl, rfl⟩))
    (fun os started H enc _ => lifted os started H enc)

theorem proved : Rows.RecordApartSaid := over
#print axioms proved
end Go.Proofs.Ytknhejpomemilaa.recordApart
