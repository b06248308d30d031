/- ONCE AND ALWAYS ARE EACH OTHER'S CONTRARY, and what holds since now holds: the laws of the meaning, of any two formulas of at most 4 parts, at each place of at most 25 things that are told. Conditions: none. -/
import Derived.Test.YtmemhlhjkpijpaaLwI
import Derived.Deep.DeepCutAuto
import Derived.Deep.LoopGhost
namespace Go.Proofs.Ytmemhlhjkpijpaa.holdsLaws
open Go.ChangeShapes Go.WideShapes Go.ChangeAt Go.RowKit Go.Proofs.Ytmemhlhjkpijpaa
set_option linter.unusedVariables false
set_option linter.unusedSimpArgs false
set_option maxRecDepth 100000
attribute [local go_sem] cell_set_ite Near.cell Near.frozen

set_option maxHeartbeats 8000000 in
theorem few (w : World) (A : Option Addr) (n c : Nat) (ts : Nat → Tm) (h : Terms w A n ts) (hc : n ≤ c) (hn : n ≤ 4) (hra : rtB ts n = true) (B : Option Addr) (m d : Nat) (us : Nat → Tm) (g : Terms w B m us) (hd : m ≤ d) (hm : m ≤ 4) (hrb : rtB us m = true)
    (O : Option Addr) (p oc : Nat) (os : Nat → Ou) (ho : Outs w O p os) (he : p ≤ oc) (hp : p ≤ 25) (bk : Int) (wbk : (Lit.int .u8 bk).wf = true) :
    Calls Try.prog 4 #[.slice A n c, .slice B m d, .agg #[.slice O p oc, .int .u8 bk]] w fun e w' => e = .returned (.bool true) ∧ Below w.heap.size w w' := by
  have n1 := rt_pos hra
  have m1 := rt_pos hrb
  have HT := Lib.hid (fun w' (hb : Below w.heap.size w w') => h.below hb)
  have HU := Lib.hid (fun w' (hb : Below w.heap.size w w') => g.below hb)
  have HO := Lib.hid (fun w' (hb : Below w.heap.size w w') => ho.below hb)
  obtain ⟨Ma, hMa⟩ : ∃ M, mnF ts n = M := ⟨_, rfl⟩
  obtain ⟨Mb, hMb⟩ : ∃ M, mnF us m = M := ⟨_, rfl⟩
  have FA := Lib.hid (show Fm ts n Ma from ⟨hra, hMa⟩)
  have FB := Lib.hid (show Fm us m Mb from ⟨hrb, hMb⟩)
  have HRa := Lib.hid (fun w' (hb : Below w.heap.size w w') => hra ▸ fo_right A n c ts w' (h.below hb))
  have HRb := Lib.hid (fun w' (hb : Below w.heap.size w w') => hrb ▸ fo_right B m d us w' (g.below hb))
  have t0 : decide (4 < (n : Int)) = false := decide_eq_false (by omega)
  have t1 : decide (4 < (m : Int)) = false := decide_eq_false (by omega)
  have t2 : decide (25 < (p : Int)) = false := decide_eq_false (by omega)
  have A0 := below_alloc_on (Below.refl w.heap.size w) (.cells #[.slice O p oc, .int .u8 bk] 33)
  have B0 := box_new w #[.slice O p oc, .int .u8 bk] 33
  obtain ⟨k0, k1⟩ : 0 ≤ bk ∧ bk ≤ 255 := by simp only [Lit.wf, IntKind.min, IntKind.max, IntKind.signed, IntKind.bits, Bool.and_eq_true] at wbk; simpa using wbk
  clear h g ho hra hrb hMa hMb wbk
  go_enter Try.func4, Try.ntmps4
  go_upto_region 4 with ((first | (go_at_call 13; first | (refine (HRa.out _ A0).mono ?_; rintro e w1 ⟨rfl, hb⟩; have A1 := below_call A0 hb; have B1 := B0.below hb; clear hb A0 B0) | (refine (HRb.out _ A1).mono ?_; rintro e w2 ⟨rfl, hb⟩; have A2 := below_call A1 hb; have B2 := B1.below hb; clear hb A1 B1))))
  have c0 : w2.cell? ⟨w.heap.size, 0, none⟩ = some (.slice O p oc) := B2.2.1 0
  have c1 : w2.cell? ⟨w.heap.size, 1, none⟩ = some (.int .u8 bk) := B2.2.1 1
  go_upto_region 5 with (fail)
  go_upto_region 6 with (fail)
  obtain ⟨z0, z1⟩ : 0 ≤ bk % 30 ∧ bk % 30 ≤ 29 := by omega
  generalize bk % 30 = n0 at *
  refine at_world (fun W => Below w.heap.size w W ∧ Box W w2.heap.size #[.int .i64 3, .int .i64 0, .int .i64 0] ∧ Box W (w2.heap.size + 1) #[.int .i64 6, .int .i64 n0, .int .i64 0] ∧ Box W (w2.heap.size + 1 + 1) #[.int .i64 7, .int .i64 n0, .int .i64 0])
    ⟨below_alloc_on (below_alloc_on (below_alloc_on A2 _) _) _, ((box_new w2 #[.int .i64 3, .int .i64 0, .int .i64 0] 36).alloc _).alloc _, (box_at (w2.alloc (.cells #[.int .i64 3, .int .i64 0, .int .i64 0] 36)) #[.int .i64 6, .int .i64 n0, .int .i64 0] 36 (by simp)).alloc _, box_at _ #[.int .i64 7, .int .i64 n0, .int .i64 0] 36 (by simp)⟩ ?_
  clear A2 B2 c0 c1 k0 k1
  obtain ⟨b9, h9⟩ : ∃ b, w2.heap.size = b := ⟨_, rfl⟩
  obtain ⟨b10, h10⟩ : ∃ b, w2.heap.size + 1 = b := ⟨_, rfl⟩
  obtain ⟨b11, h11⟩ : ∃ b, w2.heap.size + 1 + 1 = b := ⟨_, rfl⟩
  rw [h11, h10, h9]
  rintro W ⟨AW, x9, x10, x11⟩
  clear h9 h10 h11
  go_upto_region 7 with ((go_at_call 14; refine (lw_two ⟨8, 0, 0⟩ A B n c m d ts us _ (HT.out _ AW) (HU.out _ AW) n1 (by omega) m1 (by omega) (by decide)).mono ?_; rintro e w3 ⟨g12, d12, rfl, hJ, hd12, _, _, hb0⟩; have hb := below_call (below_alloc_on (Below.refl W.heap.size W) _) hb0; have L3 : LwI w b9 b10 b11 g12 (n + m + 1) n0 (tmJ (tmJ ts us n) (fun _ => ⟨8, 0, 0⟩) (n + m)) w3 := ⟨below_call AW hb, x9.below hb, x10.below hb, x11.below hb, hJ⟩; clear hb hb0 hJ x9 x10 x11 AW))
  obtain ⟨J, hJ⟩ : ∃ J, tmJ (tmJ ts us n) (fun _ => ⟨8, 0, 0⟩) (n + m) = J := ⟨_, rfl⟩
  have FJ := Lib.hid (show Fm J (n + m + 1) (.since Ma Mb) from hJ ▸ FA.out.since FB.out (by omega))
  rw [hJ] at L3
  clear hJ
  go_wp2_with (fail)
  go_loopg [13, 14, 15, 16, 59] p (fun gk y13 y14 y15 y16 i wr => ∃ k : Nat, k ≤ p ∧ gk = p - k ∧ i = .int .i64 k ∧ LwI w b9 b10 b11 g12 (n + m + 1) n0 J wr)
  case atStart => exact ⟨0, by omega, rfl, rfl, L3⟩
  case round =>
    clear L3
    obtain ⟨k, hk, rfl, rfl, L3⟩ := hrel
    by_cases hlt : k < p
    case neg =>
      obtain rfl : k = p := by omega
      have AK := L3.bel
      clear HRa HRb FA FB FJ HT HU HO L3
      go_wp2_with (go_at_call 8; refine (law57_awake _).mono ?_; rintro e w' ⟨rfl, hb'⟩)
      go_ret
      exact ⟨rfl, below_call AK hb'⟩
    have kp : (k : Int) < (p : Int) := by omega
    have HV := Lib.hid (lw_contrary os Ma n0 k)
    have HN := Lib.hid (lw_now os Ma k)
    have HE := Lib.hid (fun (a : 0 < n0) => lw_once os Ma n0 a (by omega) k)
    have HS := Lib.hid (lw_since os Ma Mb k)
    have HB2 := Lib.hid (show soM os (.both Ma Mb) k = (soM os Ma k && soM os Mb k) from rfl)
    have HE2 := Lib.hid (show soM os (.either Ma Mb) k = (soM os Ma k || soM os Mb k) from rfl)
    have HX2 := Lib.hid (show soM os (.not Ma) k = !(soM os Ma k) from rfl)
    obtain ⟨v, hv⟩ : ∃ v, soM os (.always Ma n0) k = v := ⟨_, rfl⟩
    have HW := Lib.hid hv
    rw [hv] at HV
    obtain ⟨x, hx⟩ : ∃ x, soM os Ma k = x := ⟨_, rfl⟩
    obtain ⟨y, hy⟩ : ∃ y, soM os Mb k = y := ⟨_, rfl⟩
    rw [hx] at HN HE HS HB2 HE2 HX2
    rw [hy] at HS HB2 HE2
    have HX := Lib.hid hx
    have HY := Lib.hid hy
    clear hv hx hy
    go_wp2_with (fail)
    refine (ho_fm k x FA.out (HT.out _ L3.bel) (HO.out _ L3.bel) hc (by omega) he hlt HX.out).mono ?_
    rintro e w4 ⟨rfl, hb⟩
    have L4 := L3.below hb
    clear hb L3
    go_wp2_with (fail)
    refine (ho_fm k y FB.out (HU.out _ L4.bel) (HO.out _ L4.bel) hd (by omega) he hlt HY.out).mono ?_
    rintro e w5 ⟨rfl, hb⟩
    have L5 := L4.below hb
    clear hb L4
    go_upto_region 11 with (fail)
    go_cut [59, 90] from 59 to 199 (fun i v wx => i = .int .i64 k ∧ v = .bool false ∧ LwI w b9 b10 b11 g12 (n + m + 1) n0 J wx)
    case first => as_aux_lemma =>
      go_wp2_with (fail)
      obtain ⟨cs, hcs⟩ : ∃ cs : Nat → Value, (fun i => match i with
        | 0 => .agg #[.int .i64 3, .int .i64 0, .int .i64 0]
        | 1 => .agg #[.int .i64 6, .int .i64 n0, .int .i64 0]
        | 2 => .agg #[.int .i64 3, .int .i64 0, .int .i64 0]
        | 3 => .slice A n c
        | 10 => .slice O p oc
        | 11 => .int .i64 (k : Int)
        | 12 => .bool v
        | 13 => .agg #[.int .i64 7, .int .i64 n0, .int .i64 0]
        | 14 => .slice A n c
        | 17 => .slice O p oc
        | 18 => .int .i64 (k : Int)
        | 19 => .bool v
        | 20 => .bool false
        | _ => undef) = cs := ⟨_, rfl⟩
      have e0 : cs 0 = .agg #[.int .i64 3, .int .i64 0, .int .i64 0] := by rw [← hcs]; rfl
      have e1 : cs 1 = .agg #[.int .i64 6, .int .i64 n0, .int .i64 0] := by rw [← hcs]; rfl
      have e2 : cs 2 = .agg #[.int .i64 3, .int .i64 0, .int .i64 0] := by rw [← hcs]; rfl
      have e3 : cs 3 = .slice A n c := by rw [← hcs]; rfl
      have e10 : cs 10 = .slice O p oc := by rw [← hcs]; rfl
      have e11 : cs 11 = .int .i64 (k : Int) := by rw [← hcs]; rfl
      have e12 : cs 12 = .bool v := by rw [← hcs]; rfl
      have e13 : cs 13 = .agg #[.int .i64 7, .int .i64 n0, .int .i64 0] := by rw [← hcs]; rfl
      have e14 : cs 14 = .slice A n c := by rw [← hcs]; rfl
      have e17 : cs 17 = .slice O p oc := by rw [← hcs]; rfl
      have e18 : cs 18 = .int .i64 (k : Int) := by rw [← hcs]; rfl
      have e19 : cs 19 = .bool v := by rw [← hcs]; rfl
      have e20 : cs 20 = .bool false := by rw [← hcs]; rfl
      clear hcs
      refine wp_region_loose 21 201 (by as_aux_lemma => kernel_rfl) (by as_aux_lemma => kernel_rfl) rfl (fun w w' => Below w.heap.size w w') (fun w => Below.refl _ _) (fun a b c h g => below_call h g)
        (looseD (hlSp n ts (tmJ ts (fun _ => ⟨3, 0, 0⟩) n) (tmJ (tmJ ts (fun _ => ⟨3, 0, 0⟩) n) (fun _ => ⟨6, n0, 0⟩) (n + 1)) (tmJ (tmJ (tmJ ts (fun _ => ⟨3, 0, 0⟩) n) (fun _ => ⟨6, n0, 0⟩) (n + 1)) (fun _ => ⟨3, 0, 0⟩) (n + 1 + 1)) (tmJ ts (fun _ => ⟨7, n0, 0⟩) n)) cs)
        (fun _ _ _ => True) (looseD_stable hlSp_stable) (fun _ _ _ _ _ _ _ _ => trivial) trivial ?_ ?_
      · simp only [List.take_succ_cons, List.take_zero]
        refine looseAll_cons (k := 1) rfl (fun ac u L hE hev hkn _ _ => ?_) ?_
        · as_aux_lemma =>
          have kc : ∀ c, ac.eval (.const c) = c := fun _ => rfl
          have kf : ∀ f, ac.eval (.func f) = .func (.func f) #[] #[] := fun _ => rfl
          have hE2 : Below w5.heap.size w5 u := ((Below.refl w5.heap.size w5).drew).trans (hE.mono (Nat.le_refl _))
          have LU := L5.below hE2
          have t9 : ac.eval (.tmp 9) = .pointer (some ⟨b9, 0, none⟩) := hev 9 (by kernel_rfl)
          exact loose_load rfl _ _ rfl b9 t9 #[.int .i64 3, .int .i64 0, .int .i64 0] _ LU.x9 Try.underlying36 rfl (by kernel_rfl) ⟨Below.refl _ _, e0.symm, trivial⟩
        refine looseAll_cons (k := 2) rfl (fun ac u L hE hev hkn _ _ => ?_) ?_
        · as_aux_lemma =>
          have kc : ∀ c, ac.eval (.const c) = c := fun _ => rfl
          have kf : ∀ f, ac.eval (.func f) = .func (.func f) #[] #[] := fun _ => rfl
          have hE2 : Below w5.heap.size w5 u := ((Below.refl w5.heap.size w5).drew).trans (hE.mono (Nat.le_refl _))
          have LU := L5.below hE2
          have t10 : ac.eval (.tmp 10) = .pointer (some ⟨b10, 0, none⟩) := hev 10 (by kernel_rfl)
          exact loose_load rfl _ _ rfl b10 t10 #[.int .i64 6, .int .i64 n0, .int .i64 0] _ LU.x10 Try.underlying36 rfl (by kernel_rfl) ⟨Below.refl _ _, e1.symm, trivial⟩
        refine looseAll_cons (k := 3) rfl (fun ac u L hE hev hkn _ _ => ?_) ?_
        · as_aux_lemma =>
          have kc : ∀ c, ac.eval (.const c) = c := fun _ => rfl
          have kf : ∀ f, ac.eval (.func f) = .func (.func f) #[] #[] := fun _ => rfl
          have hE2 : Below w5.heap.size w5 u := ((Below.refl w5.heap.size w5).drew).trans (hE.mono (Nat.le_refl _))
          have LU := L5.below hE2
          have t9 : ac.eval (.tmp 9) = .pointer (some ⟨b9, 0, none⟩) := hev 9 (by kernel_rfl)
          exact loose_load rfl _ _ rfl b9 t9 #[.int .i64 3, .int .i64 0, .int .i64 0] _ LU.x9 Try.underlying36 rfl (by kernel_rfl) ⟨Below.refl _ _, e2.symm, trivial⟩
        refine looseAll_cons (k := 4) rfl (fun ac u L hE hev hkn _ _ => ?_) ?_
        · as_aux_lemma =>
          have kc : ∀ c, ac.eval (.const c) = c := fun _ => rfl
          have kf : ∀ f, ac.eval (.func f) = .func (.func f) #[] #[] := fun _ => rfl
          have hE2 : Below w5.heap.size w5 u := ((Below.refl w5.heap.size w5).drew).trans (hE.mono (Nat.le_refl _))
          have LU := L5.below hE2
          have t0 : ac.eval (.tmp 0) = .slice A n c := hev 0 (by kernel_rfl)
          exact loose_val rfl (v := .slice A n c) (by generalize ac.eval = ev at *; simp [go_sem, kc, kf, t0]) ⟨Below.refl _ _, e3.symm, trivial⟩
        refine looseAll_cons (k := 5) rfl (fun ac u L hE hev hkn _ _ => ?_) ?_
        · as_aux_lemma =>
          have kc : ∀ c, ac.eval (.const c) = c := fun _ => rfl
          have kf : ∀ f, ac.eval (.func f) = .func (.func f) #[] #[] := fun _ => rfl
          have hE2 : Below w5.heap.size w5 u := ((Below.refl w5.heap.size w5).drew).trans (hE.mono (Nat.le_refl _))
          have LU := L5.below hE2
          have t73 : ac.eval (.tmp 73) = .slice A n c := (hkn 3 (by kernel_rfl) : ac.eval (.tmp 73) = cs 3).trans e3
          exact loose_val rfl (v := .slice (some ⟨u.heap.size, 0, none⟩) 1 1) (w' := u.alloc (.cells #[.slice A n c] 22)) (by generalize ac.eval = ev at *; simp [go_sem, kc, kf, t73]) ⟨below_alloc_on (Below.refl _ _) _, show HlP n ts _ _ from HlP.new (HT.out u LU.bel) hc, trivial⟩
        refine looseAll_cons (k := 6) rfl (fun ac u L hE hev hkn _ _ => ?_) ?_
        · as_aux_lemma =>
          have kc : ∀ c, ac.eval (.const c) = c := fun _ => rfl
          have kf : ∀ f, ac.eval (.func f) = .func (.func f) #[] #[] := fun _ => rfl
          have hE2 : Below w5.heap.size w5 u := ((Below.refl w5.heap.size w5).drew).trans (hE.mono (Nat.le_refl _))
          have LU := L5.below hE2
          have t72 : ac.eval (.tmp 72) = .agg #[.int .i64 3, .int .i64 0, .int .i64 0] := (hkn 2 (by kernel_rfl) : ac.eval (.tmp 72) = cs 2).trans e2
          obtain ⟨qq, AA, cc, t74, hq, hcell, hT, hle⟩ : HlP (n) ts (ac.eval (.tmp 74)) u := hkn 4 (by kernel_rfl)
          have hw : Calls Try.prog 14 #[.agg #[.int .i64 3, .int .i64 0, .int .i64 0], .slice (some ⟨qq, 0, none⟩) 1 1] u (WiR (n + 1) (tmJ ts (fun _ => ⟨3, 0, 0⟩) n) u) := lw_one_at ⟨3, 0, 0⟩ AA (n) cc qq ts u hT hq hcell (by omega) (by omega) (show (0 : Int) ≤ 9223372036854775807 by decide)
          exact loose_call rfl (by generalize ac.eval = ev at *; simp [go_sem, kc, kf, t72, t74]) (hw.mono fun e w' ⟨gg, dd, h1, h2, h3, _, _, h4⟩ => ⟨_, h1, h4, show LiP (n + 1) (tmJ ts (fun _ => ⟨3, 0, 0⟩) n) _ w' from ⟨gg, dd, rfl, h2, h3⟩, trivial⟩)
        refine looseAll_cons (k := 7) rfl (fun ac u L hE hev hkn _ _ => ?_) ?_
        · as_aux_lemma =>
          have kc : ∀ c, ac.eval (.const c) = c := fun _ => rfl
          have kf : ∀ f, ac.eval (.func f) = .func (.func f) #[] #[] := fun _ => rfl
          have hE2 : Below w5.heap.size w5 u := ((Below.refl w5.heap.size w5).drew).trans (hE.mono (Nat.le_refl _))
          have LU := L5.below hE2
          obtain ⟨gg, dd, t75, hT, hle⟩ : LiP (n + 1) (tmJ ts (fun _ => ⟨3, 0, 0⟩) n) (ac.eval (.tmp 75)) u := hkn 5 (by kernel_rfl)
          exact loose_val rfl (v := .slice (some ⟨u.heap.size, 0, none⟩) 1 1) (w' := u.alloc (.cells #[.slice (some ⟨gg, 0, none⟩) (n + 1) dd] 22)) (by generalize ac.eval = ev at *; simp [go_sem, kc, kf, t75]) ⟨below_alloc_on (Below.refl _ _) _, show HlP (n + 1) (tmJ ts (fun _ => ⟨3, 0, 0⟩) n) _ _ from HlP.new hT hle, trivial⟩
        refine looseAll_cons (k := 8) rfl (fun ac u L hE hev hkn _ _ => ?_) ?_
        · as_aux_lemma =>
          have kc : ∀ c, ac.eval (.const c) = c := fun _ => rfl
          have kf : ∀ f, ac.eval (.func f) = .func (.func f) #[] #[] := fun _ => rfl
          have hE2 : Below w5.heap.size w5 u := ((Below.refl w5.heap.size w5).drew).trans (hE.mono (Nat.le_refl _))
          have LU := L5.below hE2
          have t71 : ac.eval (.tmp 71) = .agg #[.int .i64 6, .int .i64 n0, .int .i64 0] := (hkn 1 (by kernel_rfl) : ac.eval (.tmp 71) = cs 1).trans e1
          obtain ⟨qq, AA, cc, t76, hq, hcell, hT, hle⟩ : HlP (n + 1) (tmJ ts (fun _ => ⟨3, 0, 0⟩) n) (ac.eval (.tmp 76)) u := hkn 6 (by kernel_rfl)
          have hw : Calls Try.prog 14 #[.agg #[.int .i64 6, .int .i64 n0, .int .i64 0], .slice (some ⟨qq, 0, none⟩) 1 1] u (WiR (n + 1 + 1) (tmJ (tmJ ts (fun _ => ⟨3, 0, 0⟩) n) (fun _ => ⟨6, n0, 0⟩) (n + 1)) u) := lw_one_at ⟨6, n0, 0⟩ AA (n + 1) cc qq (tmJ ts (fun _ => ⟨3, 0, 0⟩) n) u hT hq hcell (by omega) (by omega) (show (0 : Int) ≤ 9223372036854775807 by decide)
          exact loose_call rfl (by generalize ac.eval = ev at *; simp [go_sem, kc, kf, t71, t76]) (hw.mono fun e w' ⟨gg, dd, h1, h2, h3, _, _, h4⟩ => ⟨_, h1, h4, show LiP (n + 1 + 1) (tmJ (tmJ ts (fun _ => ⟨3, 0, 0⟩) n) (fun _ => ⟨6, n0, 0⟩) (n + 1)) _ w' from ⟨gg, dd, rfl, h2, h3⟩, trivial⟩)
        refine looseAll_cons (k := 9) rfl (fun ac u L hE hev hkn _ _ => ?_) ?_
        · as_aux_lemma =>
          have kc : ∀ c, ac.eval (.const c) = c := fun _ => rfl
          have kf : ∀ f, ac.eval (.func f) = .func (.func f) #[] #[] := fun _ => rfl
          have hE2 : Below w5.heap.size w5 u := ((Below.refl w5.heap.size w5).drew).trans (hE.mono (Nat.le_refl _))
          have LU := L5.below hE2
          obtain ⟨gg, dd, t77, hT, hle⟩ : LiP (n + 1 + 1) (tmJ (tmJ ts (fun _ => ⟨3, 0, 0⟩) n) (fun _ => ⟨6, n0, 0⟩) (n + 1)) (ac.eval (.tmp 77)) u := hkn 7 (by kernel_rfl)
          exact loose_val rfl (v := .slice (some ⟨u.heap.size, 0, none⟩) 1 1) (w' := u.alloc (.cells #[.slice (some ⟨gg, 0, none⟩) (n + 1 + 1) dd] 22)) (by generalize ac.eval = ev at *; simp [go_sem, kc, kf, t77]) ⟨below_alloc_on (Below.refl _ _) _, show HlP (n + 1 + 1) (tmJ (tmJ ts (fun _ => ⟨3, 0, 0⟩) n) (fun _ => ⟨6, n0, 0⟩) (n + 1)) _ _ from HlP.new hT hle, trivial⟩
        refine looseAll_cons (k := 10) rfl (fun ac u L hE hev hkn _ _ => ?_) ?_
        · as_aux_lemma =>
          have kc : ∀ c, ac.eval (.const c) = c := fun _ => rfl
          have kf : ∀ f, ac.eval (.func f) = .func (.func f) #[] #[] := fun _ => rfl
          have hE2 : Below w5.heap.size w5 u := ((Below.refl w5.heap.size w5).drew).trans (hE.mono (Nat.le_refl _))
          have LU := L5.below hE2
          have t70 : ac.eval (.tmp 70) = .agg #[.int .i64 3, .int .i64 0, .int .i64 0] := (hkn 0 (by kernel_rfl) : ac.eval (.tmp 70) = cs 0).trans e0
          obtain ⟨qq, AA, cc, t78, hq, hcell, hT, hle⟩ : HlP (n + 1 + 1) (tmJ (tmJ ts (fun _ => ⟨3, 0, 0⟩) n) (fun _ => ⟨6, n0, 0⟩) (n + 1)) (ac.eval (.tmp 78)) u := hkn 8 (by kernel_rfl)
          have hw : Calls Try.prog 14 #[.agg #[.int .i64 3, .int .i64 0, .int .i64 0], .slice (some ⟨qq, 0, none⟩) 1 1] u (WiR (n + 1 + 1 + 1) (tmJ (tmJ (tmJ ts (fun _ => ⟨3, 0, 0⟩) n) (fun _ => ⟨6, n0, 0⟩) (n + 1)) (fun _ => ⟨3, 0, 0⟩) (n + 1 + 1)) u) := lw_one_at ⟨3, 0, 0⟩ AA (n + 1 + 1) cc qq (tmJ (tmJ ts (fun _ => ⟨3, 0, 0⟩) n) (fun _ => ⟨6, n0, 0⟩) (n + 1)) u hT hq hcell (by omega) (by omega) (show (0 : Int) ≤ 9223372036854775807 by decide)
          exact loose_call rfl (by generalize ac.eval = ev at *; simp [go_sem, kc, kf, t70, t78]) (hw.mono fun e w' ⟨gg, dd, h1, h2, h3, _, _, h4⟩ => ⟨_, h1, h4, show LiP (n + 1 + 1 + 1) (tmJ (tmJ (tmJ ts (fun _ => ⟨3, 0, 0⟩) n) (fun _ => ⟨6, n0, 0⟩) (n + 1)) (fun _ => ⟨3, 0, 0⟩) (n + 1 + 1)) _ w' from ⟨gg, dd, rfl, h2, h3⟩, trivial⟩)
        refine looseAll_cons (k := 11) rfl (fun ac u L hE hev hkn _ _ => ?_) ?_
        · as_aux_lemma =>
          have kc : ∀ c, ac.eval (.const c) = c := fun _ => rfl
          have kf : ∀ f, ac.eval (.func f) = .func (.func f) #[] #[] := fun _ => rfl
          have hE2 : Below w5.heap.size w5 u := ((Below.refl w5.heap.size w5).drew).trans (hE.mono (Nat.le_refl _))
          have LU := L5.below hE2
          have t7 : ac.eval (.tmp 7) = .slice O p oc := hev 7 (by kernel_rfl)
          exact loose_val rfl (v := .slice O p oc) (by generalize ac.eval = ev at *; simp [go_sem, kc, kf, t7]) ⟨Below.refl _ _, e10.symm, trivial⟩
        refine looseAll_cons (k := 12) rfl (fun ac u L hE hev hkn _ _ => ?_) ?_
        · as_aux_lemma =>
          have kc : ∀ c, ac.eval (.const c) = c := fun _ => rfl
          have kf : ∀ f, ac.eval (.func f) = .func (.func f) #[] #[] := fun _ => rfl
          have hE2 : Below w5.heap.size w5 u := ((Below.refl w5.heap.size w5).drew).trans (hE.mono (Nat.le_refl _))
          have LU := L5.below hE2
          have t13 : ac.eval (.tmp 13) = .int .i64 (k : Int) := hev 13 (by kernel_rfl)
          exact loose_val rfl (v := .int .i64 (k : Int)) (by generalize ac.eval = ev at *; simp [go_sem, kc, kf, t13]) ⟨Below.refl _ _, e11.symm, trivial⟩
        refine looseAll_cons (k := 13) rfl (fun ac u L hE hev hkn _ _ => ?_) ?_
        · as_aux_lemma =>
          have kc : ∀ c, ac.eval (.const c) = c := fun _ => rfl
          have kf : ∀ f, ac.eval (.func f) = .func (.func f) #[] #[] := fun _ => rfl
          have hE2 : Below w5.heap.size w5 u := ((Below.refl w5.heap.size w5).drew).trans (hE.mono (Nat.le_refl _))
          have LU := L5.below hE2
          obtain ⟨gg, dd, t79, hT, hle⟩ : LiP (n + 1 + 1 + 1) (tmJ (tmJ (tmJ ts (fun _ => ⟨3, 0, 0⟩) n) (fun _ => ⟨6, n0, 0⟩) (n + 1)) (fun _ => ⟨3, 0, 0⟩) (n + 1 + 1)) (ac.eval (.tmp 79)) u := hkn 9 (by kernel_rfl)
          have t80 : ac.eval (.tmp 80) = .slice O p oc := (hkn 10 (by kernel_rfl) : ac.eval (.tmp 80) = cs 10).trans e10
          have t81 : ac.eval (.tmp 81) = .int .i64 (k : Int) := (hkn 11 (by kernel_rfl) : ac.eval (.tmp 81) = cs 11).trans e11
          exact loose_call rfl (by generalize ac.eval = ev at *; simp [go_sem, kc, kf, t79, t80, t81]) ((ho_fm k v (((FA.out.not (by omega)).once (by omega) n0 z0 (by omega)).not (by omega)) hT (HO.out u LU.bel) hle (by omega) he hlt HV.out).mono fun e w' ⟨h1, h2⟩ => ⟨_, h1, h2, e12.symm, trivial⟩)
        refine looseAll_cons (k := 14) rfl (fun ac u L hE hev hkn _ _ => ?_) ?_
        · as_aux_lemma =>
          have kc : ∀ c, ac.eval (.const c) = c := fun _ => rfl
          have kf : ∀ f, ac.eval (.func f) = .func (.func f) #[] #[] := fun _ => rfl
          have hE2 : Below w5.heap.size w5 u := ((Below.refl w5.heap.size w5).drew).trans (hE.mono (Nat.le_refl _))
          have LU := L5.below hE2
          have t11 : ac.eval (.tmp 11) = .pointer (some ⟨b11, 0, none⟩) := hev 11 (by kernel_rfl)
          exact loose_load rfl _ _ rfl b11 t11 #[.int .i64 7, .int .i64 n0, .int .i64 0] _ LU.x11 Try.underlying36 rfl (by kernel_rfl) ⟨Below.refl _ _, e13.symm, trivial⟩
        refine looseAll_cons (k := 15) rfl (fun ac u L hE hev hkn _ _ => ?_) ?_
        · as_aux_lemma =>
          have kc : ∀ c, ac.eval (.const c) = c := fun _ => rfl
          have kf : ∀ f, ac.eval (.func f) = .func (.func f) #[] #[] := fun _ => rfl
          have hE2 : Below w5.heap.size w5 u := ((Below.refl w5.heap.size w5).drew).trans (hE.mono (Nat.le_refl _))
          have LU := L5.below hE2
          have t0 : ac.eval (.tmp 0) = .slice A n c := hev 0 (by kernel_rfl)
          exact loose_val rfl (v := .slice A n c) (by generalize ac.eval = ev at *; simp [go_sem, kc, kf, t0]) ⟨Below.refl _ _, e14.symm, trivial⟩
        refine looseAll_cons (k := 16) rfl (fun ac u L hE hev hkn _ _ => ?_) ?_
        · as_aux_lemma =>
          have kc : ∀ c, ac.eval (.const c) = c := fun _ => rfl
          have kf : ∀ f, ac.eval (.func f) = .func (.func f) #[] #[] := fun _ => rfl
          have hE2 : Below w5.heap.size w5 u := ((Below.refl w5.heap.size w5).drew).trans (hE.mono (Nat.le_refl _))
          have LU := L5.below hE2
          have t84 : ac.eval (.tmp 84) = .slice A n c := (hkn 14 (by kernel_rfl) : ac.eval (.tmp 84) = cs 14).trans e14
          exact loose_val rfl (v := .slice (some ⟨u.heap.size, 0, none⟩) 1 1) (w' := u.alloc (.cells #[.slice A n c] 22)) (by generalize ac.eval = ev at *; simp [go_sem, kc, kf, t84]) ⟨below_alloc_on (Below.refl _ _) _, show HlP n ts _ _ from HlP.new (HT.out u LU.bel) hc, trivial⟩
        refine looseAll_cons (k := 17) rfl (fun ac u L hE hev hkn _ _ => ?_) ?_
        · as_aux_lemma =>
          have kc : ∀ c, ac.eval (.const c) = c := fun _ => rfl
          have kf : ∀ f, ac.eval (.func f) = .func (.func f) #[] #[] := fun _ => rfl
          have hE2 : Below w5.heap.size w5 u := ((Below.refl w5.heap.size w5).drew).trans (hE.mono (Nat.le_refl _))
          have LU := L5.below hE2
          have t83 : ac.eval (.tmp 83) = .agg #[.int .i64 7, .int .i64 n0, .int .i64 0] := (hkn 13 (by kernel_rfl) : ac.eval (.tmp 83) = cs 13).trans e13
          obtain ⟨qq, AA, cc, t85, hq, hcell, hT, hle⟩ : HlP (n) ts (ac.eval (.tmp 85)) u := hkn 15 (by kernel_rfl)
          have hw : Calls Try.prog 14 #[.agg #[.int .i64 7, .int .i64 n0, .int .i64 0], .slice (some ⟨qq, 0, none⟩) 1 1] u (WiR (n + 1) (tmJ ts (fun _ => ⟨7, n0, 0⟩) n) u) := lw_one_at ⟨7, n0, 0⟩ AA (n) cc qq ts u hT hq hcell (by omega) (by omega) (show (0 : Int) ≤ 9223372036854775807 by decide)
          exact loose_call rfl (by generalize ac.eval = ev at *; simp [go_sem, kc, kf, t83, t85]) (hw.mono fun e w' ⟨gg, dd, h1, h2, h3, _, _, h4⟩ => ⟨_, h1, h4, show LiP (n + 1) (tmJ ts (fun _ => ⟨7, n0, 0⟩) n) _ w' from ⟨gg, dd, rfl, h2, h3⟩, trivial⟩)
        refine looseAll_cons (k := 18) rfl (fun ac u L hE hev hkn _ _ => ?_) ?_
        · as_aux_lemma =>
          have kc : ∀ c, ac.eval (.const c) = c := fun _ => rfl
          have kf : ∀ f, ac.eval (.func f) = .func (.func f) #[] #[] := fun _ => rfl
          have hE2 : Below w5.heap.size w5 u := ((Below.refl w5.heap.size w5).drew).trans (hE.mono (Nat.le_refl _))
          have LU := L5.below hE2
          have t7 : ac.eval (.tmp 7) = .slice O p oc := hev 7 (by kernel_rfl)
          exact loose_val rfl (v := .slice O p oc) (by generalize ac.eval = ev at *; simp [go_sem, kc, kf, t7]) ⟨Below.refl _ _, e17.symm, trivial⟩
        refine looseAll_cons (k := 19) rfl (fun ac u L hE hev hkn _ _ => ?_) ?_
        · as_aux_lemma =>
          have kc : ∀ c, ac.eval (.const c) = c := fun _ => rfl
          have kf : ∀ f, ac.eval (.func f) = .func (.func f) #[] #[] := fun _ => rfl
          have hE2 : Below w5.heap.size w5 u := ((Below.refl w5.heap.size w5).drew).trans (hE.mono (Nat.le_refl _))
          have LU := L5.below hE2
          have t13 : ac.eval (.tmp 13) = .int .i64 (k : Int) := hev 13 (by kernel_rfl)
          exact loose_val rfl (v := .int .i64 (k : Int)) (by generalize ac.eval = ev at *; simp [go_sem, kc, kf, t13]) ⟨Below.refl _ _, e18.symm, trivial⟩
        refine looseAll_cons (k := 20) rfl (fun ac u L hE hev hkn _ _ => ?_) ?_
        · as_aux_lemma =>
          have kc : ∀ c, ac.eval (.const c) = c := fun _ => rfl
          have kf : ∀ f, ac.eval (.func f) = .func (.func f) #[] #[] := fun _ => rfl
          have hE2 : Below w5.heap.size w5 u := ((Below.refl w5.heap.size w5).drew).trans (hE.mono (Nat.le_refl _))
          have LU := L5.below hE2
          obtain ⟨gg, dd, t86, hT, hle⟩ : LiP (n + 1) (tmJ ts (fun _ => ⟨7, n0, 0⟩) n) (ac.eval (.tmp 86)) u := hkn 16 (by kernel_rfl)
          have t87 : ac.eval (.tmp 87) = .slice O p oc := (hkn 17 (by kernel_rfl) : ac.eval (.tmp 87) = cs 17).trans e17
          have t88 : ac.eval (.tmp 88) = .int .i64 (k : Int) := (hkn 18 (by kernel_rfl) : ac.eval (.tmp 88) = cs 18).trans e18
          exact loose_call rfl (by generalize ac.eval = ev at *; simp [go_sem, kc, kf, t86, t87, t88]) ((ho_fm k v (FA.out.always (by omega) n0 z0 (by omega)) hT (HO.out u LU.bel) hle (by omega) he hlt HW.out).mono fun e w' ⟨h1, h2⟩ => ⟨_, h1, h2, e19.symm, trivial⟩)
        refine looseAll_cons (k := 21) rfl (fun ac u L hE hev hkn _ _ => ?_) ?_
        · as_aux_lemma =>
          have kc : ∀ c, ac.eval (.const c) = c := fun _ => rfl
          have kf : ∀ f, ac.eval (.func f) = .func (.func f) #[] #[] := fun _ => rfl
          have hE2 : Below w5.heap.size w5 u := ((Below.refl w5.heap.size w5).drew).trans (hE.mono (Nat.le_refl _))
          have LU := L5.below hE2
          have t82 : ac.eval (.tmp 82) = .bool v := (hkn 12 (by kernel_rfl) : ac.eval (.tmp 82) = cs 12).trans e12
          have t89 : ac.eval (.tmp 89) = .bool v := (hkn 19 (by kernel_rfl) : ac.eval (.tmp 89) = cs 19).trans e19
          exact loose_val rfl (v := .bool false) (by generalize ac.eval = ev at *; simp [go_sem, kc, kf, t82, t89]) ⟨Below.refl _ _, e20.symm, trivial⟩
        exact looseAll_nil
      · intro ac u hE hN hdf hO hD _
        as_aux_lemma =>
        have hE2 : Below w5.heap.size w5 u := ((Below.refl w5.heap.size w5).drew).trans (hE.mono (Nat.le_refl _))
        have LU := L5.below hE2
        have f90 : ac.eval (.tmp 90) = .bool false := (hD 20 (by omega) : ac.eval (.tmp 90) = cs 20).trans e20
        obtain ⟨v70, f70⟩ : ∃ v, ac.eval (.tmp 70) = v := ⟨_, rfl⟩
        obtain ⟨v71, f71⟩ : ∃ v, ac.eval (.tmp 71) = v := ⟨_, rfl⟩
        obtain ⟨v72, f72⟩ : ∃ v, ac.eval (.tmp 72) = v := ⟨_, rfl⟩
        obtain ⟨v73, f73⟩ : ∃ v, ac.eval (.tmp 73) = v := ⟨_, rfl⟩
        obtain ⟨v74, f74⟩ : ∃ v, ac.eval (.tmp 74) = v := ⟨_, rfl⟩
        obtain ⟨v75, f75⟩ : ∃ v, ac.eval (.tmp 75) = v := ⟨_, rfl⟩
        obtain ⟨v76, f76⟩ : ∃ v, ac.eval (.tmp 76) = v := ⟨_, rfl⟩
        obtain ⟨v77, f77⟩ : ∃ v, ac.eval (.tmp 77) = v := ⟨_, rfl⟩
        obtain ⟨v78, f78⟩ : ∃ v, ac.eval (.tmp 78) = v := ⟨_, rfl⟩
        obtain ⟨v79, f79⟩ : ∃ v, ac.eval (.tmp 79) = v := ⟨_, rfl⟩
        obtain ⟨v80, f80⟩ : ∃ v, ac.eval (.tmp 80) = v := ⟨_, rfl⟩
        obtain ⟨v81, f81⟩ : ∃ v, ac.eval (.tmp 81) = v := ⟨_, rfl⟩
        obtain ⟨v82, f82⟩ : ∃ v, ac.eval (.tmp 82) = v := ⟨_, rfl⟩
        obtain ⟨v83, f83⟩ : ∃ v, ac.eval (.tmp 83) = v := ⟨_, rfl⟩
        obtain ⟨v84, f84⟩ : ∃ v, ac.eval (.tmp 84) = v := ⟨_, rfl⟩
        obtain ⟨v85, f85⟩ : ∃ v, ac.eval (.tmp 85) = v := ⟨_, rfl⟩
        obtain ⟨v86, f86⟩ : ∃ v, ac.eval (.tmp 86) = v := ⟨_, rfl⟩
        obtain ⟨v87, f87⟩ : ∃ v, ac.eval (.tmp 87) = v := ⟨_, rfl⟩
        obtain ⟨v88, f88⟩ : ∃ v, ac.eval (.tmp 88) = v := ⟨_, rfl⟩
        obtain ⟨v89, f89⟩ : ∃ v, ac.eval (.tmp 89) = v := ⟨_, rfl⟩
        rw [act_puts [(70, _), (71, _), (72, _), (73, _), (74, _), (75, _), (76, _), (77, _), (78, _), (79, _), (80, _), (81, _), (82, _), (83, _), (84, _), (85, _), (86, _), (87, _), (88, _), (89, _), (90, _)] 201 hN rfl hdf (by
          intro x hx
          simp only [List.mem_cons, List.mem_nil_iff, or_false] at hx
          rcases hx with rfl | rfl | rfl | rfl | rfl | rfl | rfl | rfl | rfl | rfl | rfl | rfl | rfl | rfl | rfl | rfl | rfl | rfl | rfl | rfl | rfl
          · exact tmps_at hN (by omega) f70
          · exact tmps_at hN (by omega) f71
          · exact tmps_at hN (by omega) f72
          · exact tmps_at hN (by omega) f73
          · exact tmps_at hN (by omega) f74
          · exact tmps_at hN (by omega) f75
          · exact tmps_at hN (by omega) f76
          · exact tmps_at hN (by omega) f77
          · exact tmps_at hN (by omega) f78
          · exact tmps_at hN (by omega) f79
          · exact tmps_at hN (by omega) f80
          · exact tmps_at hN (by omega) f81
          · exact tmps_at hN (by omega) f82
          · exact tmps_at hN (by omega) f83
          · exact tmps_at hN (by omega) f84
          · exact tmps_at hN (by omega) f85
          · exact tmps_at hN (by omega) f86
          · exact tmps_at hN (by omega) f87
          · exact tmps_at hN (by omega) f88
          · exact tmps_at hN (by omega) f89
          · exact tmps_at hN (by omega) f90) hO (by as_aux_lemma => kernel_rfl)]
        clear hO hD hN hdf hE hE2 f70 f71 f72 f73 f74 f75 f76 f77 f78 f79 f80 f81 f82 f83 f84 f85 f86 f87 f88 f89 f90 e0 e1 e2 e3 e10 e11 e12 e13 e14 e17 e18 e19 e20
        simp only [List.foldl, Act.put, List.setIfInBounds_toArray, List.set_cons_zero, List.set_cons_succ]
        change wpList _ _ _ [] _ _
        go_wp2_with (fail)
        go_meet
        exact ⟨rfl, rfl, LU⟩
    case rest =>
      clear L5
      obtain ⟨rfl, rfl, L5⟩ := hcut
      go_upto_region 13 with (fail)
      go_cut [16, 59] from 59 to 199 (fun a i wx => ∃ ago : Bool, a = .bool ago ∧ i = .int .i64 k ∧ (0 < n0 → soM os (.once Ma n0) k = (x || ago)) ∧ LwI w b9 b10 b11 g12 (n + m + 1) n0 J wx)
      case first => as_aux_lemma =>
        by_cases hk0 : 0 < k
        · have z2 : decide (0 < (k : Int)) = true := decide_eq_true (by omega)
          by_cases hn0 : 0 < n0
          · have z3 : decide (0 < n0) = true := decide_eq_true hn0
            obtain ⟨q, hq⟩ : ∃ q, soM os (.once Ma (n0 - 1)) (k - 1) = q := ⟨_, rfl⟩
            have HQ := Lib.hid hq
            have HG := Lib.hid (show 0 < n0 → soM os (.once Ma n0) k = (x || q) from fun h0 => by rw [HE.out h0, HQ.out, decide_eq_true hk0, Bool.true_and])
            clear hq
            go_wp2_with (fail)
            refine (lw_one ⟨6, n0 - 1, 0⟩ A n c ts _ (HT.out _ L5.bel) n1 (by omega) (show (0 : Int) ≤ 9223372036854775807 by decide)).mono ?_
            rintro e w6 ⟨gg, dd, rfl, TT, ll, _, _, hb0⟩
            have L6 := L5.below (below_call (below_alloc_on (Below.refl _ _) _) hb0)
            clear hb0 L5
            go_wp2_with (fail)
            have HC := ho_fm (k - 1) q (FA.out.once (by omega) (n0 - 1) (by omega) (by omega)) TT (HO.out _ L6.bel) ll (by omega) he (by omega) (HQ.out)
            rw [show ((k - 1 : Nat) : Int) = (k : Int) - 1 by omega] at HC
            refine HC.mono ?_
            rintro e w7 ⟨rfl, hb⟩
            have L7 := L6.below hb
            clear hb HC L6 TT ll
            go_wp2_with (fail)
            go_meet
            exact ⟨q, rfl, rfl, HG.out, L7⟩
          · have z3 : decide (0 < n0) = false := decide_eq_false hn0
            have HG := Lib.hid (show 0 < n0 → soM os (.once Ma n0) k = (x || false) from fun h0 => absurd h0 hn0)
            go_wp2_with (fail)
            go_meet
            exact ⟨false, rfl, rfl, HG.out, L5⟩
        · have z2 : decide (0 < (k : Int)) = false := decide_eq_false (by omega)
          have HG := Lib.hid (show 0 < n0 → soM os (.once Ma n0) k = (x || false) from fun h0 => by rw [HE.out h0, decide_eq_false hk0, Bool.false_and])
          go_wp2_with (fail)
          go_meet
          exact ⟨false, rfl, rfl, HG.out, L5⟩
      case rest =>
        clear L5
        obtain ⟨ago, rfl, rfl, hG, L5⟩ := hcut
        have HG := Lib.hid hG
        clear hG
        go_upto_region 14 with (fail)
        go_cut [59, 139] from 59 to 199 (fun i v wx => i = .int .i64 k ∧ v = .bool false ∧ LwI w b9 b10 b11 g12 (n + m + 1) n0 J wx)
        case first => as_aux_lemma =>
          by_cases hn0 : 0 < n0
          · have z3 : decide (0 < n0) = true := decide_eq_true hn0
            have z4 : (n0 == 0) = false := by simp; omega
            have z5 : (ago != ago) = false := by simp
            have HG2 := Lib.hid (HG.out hn0)
            cases x
            · obtain ⟨q0, q1, q2, _, _⟩ := L5.x10.three
              go_wp2_with (fail)
              refine (lw_one ⟨6, n0, 0⟩ A n c ts _ (HT.out _ L5.bel) n1 (by omega) (show (0 : Int) ≤ 9223372036854775807 by decide)).mono ?_
              rintro e w6 ⟨gg, dd, rfl, TT, ll, _, _, hb0⟩
              have L6 := L5.below (below_call (below_alloc_on (Below.refl _ _) _) hb0)
              clear hb0 L5
              go_wp2_with (fail)
              have HC := ho_fm k ago (FA.out.once (by omega) n0 z0 (by omega)) TT (HO.out _ L6.bel) ll (by omega) he (hlt) (HG2.out.trans (Bool.false_or _))
              refine HC.mono ?_
              rintro e w7 ⟨rfl, hb⟩
              have L7 := L6.below hb
              clear hb HC L6 TT ll
              go_wp2_with (fail)
              go_meet
              exact ⟨rfl, rfl, L7⟩
            · obtain ⟨q0, q1, q2, _, _⟩ := L5.x10.three
              go_wp2_with (fail)
              refine (lw_one ⟨6, n0, 0⟩ A n c ts _ (HT.out _ L5.bel) n1 (by omega) (show (0 : Int) ≤ 9223372036854775807 by decide)).mono ?_
              rintro e w6 ⟨gg, dd, rfl, TT, ll, _, _, hb0⟩
              have L6 := L5.below (below_call (below_alloc_on (Below.refl _ _) _) hb0)
              clear hb0 L5
              go_wp2_with (fail)
              have HC := ho_fm k true (FA.out.once (by omega) n0 z0 (by omega)) TT (HO.out _ L6.bel) ll (by omega) he (hlt) (HG2.out.trans (Bool.true_or _))
              refine HC.mono ?_
              rintro e w7 ⟨rfl, hb⟩
              have L7 := L6.below hb
              clear hb HC L6 TT ll
              go_wp2_with (fail)
              go_meet
              exact ⟨rfl, rfl, L7⟩
          · have z3 : decide (0 < n0) = false := decide_eq_false hn0
            have z4 : (n0 == 0) = true := by simp; omega
            have z5 : (x != x) = false := by simp
            have HG2 := Lib.hid (show soM os (.once Ma n0) k = x from by rw [show n0 = 0 by omega]; exact HN.out)
            obtain ⟨q0, q1, q2, _, _⟩ := L5.x10.three
            go_wp2_with (fail)
            refine (lw_one ⟨6, n0, 0⟩ A n c ts _ (HT.out _ L5.bel) n1 (by omega) (show (0 : Int) ≤ 9223372036854775807 by decide)).mono ?_
            rintro e w6 ⟨gg, dd, rfl, TT, ll, _, _, hb0⟩
            have L6 := L5.below (below_call (below_alloc_on (Below.refl _ _) _) hb0)
            clear hb0 L5
            go_wp2_with (fail)
            have HC := ho_fm k x (FA.out.once (by omega) n0 z0 (by omega)) TT (HO.out _ L6.bel) ll (by omega) he (hlt) (HG2.out)
            refine HC.mono ?_
            rintro e w7 ⟨rfl, hb⟩
            have L7 := L6.below hb
            clear hb HC L6 TT ll
            go_wp2_with (fail)
            go_meet
            exact ⟨rfl, rfl, L7⟩
        case rest =>
          clear L5
          obtain ⟨rfl, rfl, L5⟩ := hcut
          go_upto_region 16 with (fail)
          go_cut [59, 159] from 59 to 199 (fun i v wx => i = .int .i64 k ∧ v = .bool false ∧ LwI w b9 b10 b11 g12 (n + m + 1) n0 J wx)
          case first => as_aux_lemma =>
            cases y
            · cases x
              · have HG2 := Lib.hid (HS.out.trans (Bool.false_or _))
                go_wp2_with (fail)
                have HC := ho_fm k false FJ.out L5.s12 (HO.out _ L5.bel) hd12 (by omega) he (hlt) (HG2.out.trans (Bool.false_and _))
                refine HC.mono ?_
                rintro e w6 ⟨rfl, hb⟩
                have L6 := L5.below hb
                clear hb HC L5 
                go_wp2_with (fail)
                go_meet
                exact ⟨rfl, rfl, L6⟩
              · by_cases hk0 : 0 < k
                · have z2 : decide (0 < (k : Int)) = true := decide_eq_true (by omega)
                  obtain ⟨q, hq⟩ : ∃ q, soM os (.since Ma Mb) (k - 1) = q := ⟨_, rfl⟩
                  have HQ := Lib.hid hq
                  have HG2 := Lib.hid (show soM os (.since Ma Mb) k = q by rw [HS.out, HQ.out, decide_eq_true hk0, Bool.false_or, Bool.true_and, Bool.true_and])
                  have z5 : (q != q) = false := by simp
                  clear hq
                  go_wp2_with (fail)
                  have HC := ho_fm k q FJ.out L5.s12 (HO.out _ L5.bel) hd12 (by omega) he (hlt) (HG2.out)
                  refine HC.mono ?_
                  rintro e w6 ⟨rfl, hb⟩
                  have L6 := L5.below hb
                  clear hb HC L5 
                  go_wp2_with (fail)
                  have HC := ho_fm (k - 1) q FJ.out L6.s12 (HO.out _ L6.bel) hd12 (by omega) he (by omega) (HQ.out)
                  rw [show ((k - 1 : Nat) : Int) = (k : Int) - 1 by omega] at HC
                  refine HC.mono ?_
                  rintro e w7 ⟨rfl, hb⟩
                  have L7 := L6.below hb
                  clear hb HC L6 
                  go_wp2_with (fail)
                  go_meet
                  exact ⟨rfl, rfl, L7⟩
                · have z2 : decide (0 < (k : Int)) = false := decide_eq_false (by omega)
                  have HG2 := Lib.hid (show soM os (.since Ma Mb) k = false by rw [HS.out, decide_eq_false hk0, Bool.false_or, Bool.true_and, Bool.false_and])
                  go_wp2_with (fail)
                  have HC := ho_fm k false FJ.out L5.s12 (HO.out _ L5.bel) hd12 (by omega) he (hlt) (HG2.out)
                  refine HC.mono ?_
                  rintro e w6 ⟨rfl, hb⟩
                  have L6 := L5.below hb
                  clear hb HC L5 
                  go_wp2_with (fail)
                  go_meet
                  exact ⟨rfl, rfl, L6⟩
            · have HG2 := Lib.hid (HS.out.trans (Bool.true_or _))
              go_wp2_with (fail)
              have HC := ho_fm k true FJ.out L5.s12 (HO.out _ L5.bel) hd12 (by omega) he (hlt) (HG2.out)
              refine HC.mono ?_
              rintro e w6 ⟨rfl, hb⟩
              have L6 := L5.below hb
              clear hb HC L5 
              go_wp2_with (fail)
              go_meet
              exact ⟨rfl, rfl, L6⟩
          case rest =>
            clear L5
            obtain ⟨rfl, rfl, L5⟩ := hcut
            go_upto_region 18 with (fail)
            go_cut [59, 198] from 59 to 199 (fun i v wx => i = .int .i64 k ∧ v = .bool false ∧ LwI w b9 b10 b11 g12 (n + m + 1) n0 J wx)
            case first => as_aux_lemma =>
              cases x
              · cases y
                · go_wp2_with (fail)
                  refine (lw_two ⟨4, 0, 0⟩ A B n c m d ts us _ (HT.out _ L5.bel) (HU.out _ L5.bel) n1 (by omega) m1 (by omega) (show (0 : Int) ≤ 9223372036854775807 by decide)).mono ?_
                  rintro e w6 ⟨gg, dd, rfl, TT, ll, _, _, hb0⟩
                  have L6 := L5.below (below_call (below_alloc_on (Below.refl _ _) _) hb0)
                  clear hb0 L5
                  go_wp2_with (fail)
                  have HC := ho_fm k false (FA.out.and FB.out (by omega)) TT (HO.out _ L6.bel) ll (by omega) he (hlt) (HB2.out)
                  refine HC.mono ?_
                  rintro e w7 ⟨rfl, hb⟩
                  have L7 := L6.below hb
                  clear hb HC L6 TT ll
                  go_wp2_with (fail)
                  refine (lw_two ⟨5, 0, 0⟩ A B n c m d ts us _ (HT.out _ L7.bel) (HU.out _ L7.bel) n1 (by omega) m1 (by omega) (show (0 : Int) ≤ 9223372036854775807 by decide)).mono ?_
                  rintro e w8 ⟨gg, dd, rfl, TT, ll, _, _, hb0⟩
                  have L8 := L7.below (below_call (below_alloc_on (Below.refl _ _) _) hb0)
                  clear hb0 L7
                  go_wp2_with (fail)
                  have HC := ho_fm k false (FA.out.or FB.out (by omega)) TT (HO.out _ L8.bel) ll (by omega) he (hlt) (HE2.out)
                  refine HC.mono ?_
                  rintro e w9 ⟨rfl, hb⟩
                  have L9 := L8.below hb
                  clear hb HC L8 TT ll
                  obtain ⟨q0, q1, q2, _, _⟩ := L9.x9.three
                  go_wp2_with (fail)
                  refine (lw_one ⟨3, 0, 0⟩ A n c ts _ (HT.out _ L9.bel) n1 (by omega) (show (0 : Int) ≤ 9223372036854775807 by decide)).mono ?_
                  rintro e w10 ⟨gg, dd, rfl, TT, ll, _, _, hb0⟩
                  have L10 := L9.below (below_call (below_alloc_on (Below.refl _ _) _) hb0)
                  clear hb0 L9
                  go_wp2_with (fail)
                  have HC := ho_fm k true (FA.out.not (by omega)) TT (HO.out _ L10.bel) ll (by omega) he (hlt) (HX2.out)
                  refine HC.mono ?_
                  rintro e w11 ⟨rfl, hb⟩
                  have L11 := L10.below hb
                  clear hb HC L10 TT ll
                  go_wp2_with (fail)
                  go_meet
                  exact ⟨rfl, rfl, L11⟩
                · go_wp2_with (fail)
                  refine (lw_two ⟨4, 0, 0⟩ A B n c m d ts us _ (HT.out _ L5.bel) (HU.out _ L5.bel) n1 (by omega) m1 (by omega) (show (0 : Int) ≤ 9223372036854775807 by decide)).mono ?_
                  rintro e w6 ⟨gg, dd, rfl, TT, ll, _, _, hb0⟩
                  have L6 := L5.below (below_call (below_alloc_on (Below.refl _ _) _) hb0)
                  clear hb0 L5
                  go_wp2_with (fail)
                  have HC := ho_fm k false (FA.out.and FB.out (by omega)) TT (HO.out _ L6.bel) ll (by omega) he (hlt) (HB2.out)
                  refine HC.mono ?_
                  rintro e w7 ⟨rfl, hb⟩
                  have L7 := L6.below hb
                  clear hb HC L6 TT ll
                  go_wp2_with (fail)
                  refine (lw_two ⟨5, 0, 0⟩ A B n c m d ts us _ (HT.out _ L7.bel) (HU.out _ L7.bel) n1 (by omega) m1 (by omega) (show (0 : Int) ≤ 9223372036854775807 by decide)).mono ?_
                  rintro e w8 ⟨gg, dd, rfl, TT, ll, _, _, hb0⟩
                  have L8 := L7.below (below_call (below_alloc_on (Below.refl _ _) _) hb0)
                  clear hb0 L7
                  go_wp2_with (fail)
                  have HC := ho_fm k true (FA.out.or FB.out (by omega)) TT (HO.out _ L8.bel) ll (by omega) he (hlt) (HE2.out)
                  refine HC.mono ?_
                  rintro e w9 ⟨rfl, hb⟩
                  have L9 := L8.below hb
                  clear hb HC L8 TT ll
                  obtain ⟨q0, q1, q2, _, _⟩ := L9.x9.three
                  go_wp2_with (fail)
                  refine (lw_one ⟨3, 0, 0⟩ A n c ts _ (HT.out _ L9.bel) n1 (by omega) (show (0 : Int) ≤ 9223372036854775807 by decide)).mono ?_
                  rintro e w10 ⟨gg, dd, rfl, TT, ll, _, _, hb0⟩
                  have L10 := L9.below (below_call (below_alloc_on (Below.refl _ _) _) hb0)
                  clear hb0 L9
                  go_wp2_with (fail)
                  have HC := ho_fm k true (FA.out.not (by omega)) TT (HO.out _ L10.bel) ll (by omega) he (hlt) (HX2.out)
                  refine HC.mono ?_
                  rintro e w11 ⟨rfl, hb⟩
                  have L11 := L10.below hb
                  clear hb HC L10 TT ll
                  go_wp2_with (fail)
                  go_meet
                  exact ⟨rfl, rfl, L11⟩
              · cases y
                · go_wp2_with (fail)
                  refine (lw_two ⟨4, 0, 0⟩ A B n c m d ts us _ (HT.out _ L5.bel) (HU.out _ L5.bel) n1 (by omega) m1 (by omega) (show (0 : Int) ≤ 9223372036854775807 by decide)).mono ?_
                  rintro e w6 ⟨gg, dd, rfl, TT, ll, _, _, hb0⟩
                  have L6 := L5.below (below_call (below_alloc_on (Below.refl _ _) _) hb0)
                  clear hb0 L5
                  go_wp2_with (fail)
                  have HC := ho_fm k false (FA.out.and FB.out (by omega)) TT (HO.out _ L6.bel) ll (by omega) he (hlt) (HB2.out)
                  refine HC.mono ?_
                  rintro e w7 ⟨rfl, hb⟩
                  have L7 := L6.below hb
                  clear hb HC L6 TT ll
                  go_wp2_with (fail)
                  refine (lw_two ⟨5, 0, 0⟩ A B n c m d ts us _ (HT.out _ L7.bel) (HU.out _ L7.bel) n1 (by omega) m1 (by omega) (show (0 : Int) ≤ 9223372036854775807 by decide)).mono ?_
                  rintro e w8 ⟨gg, dd, rfl, TT, ll, _, _, hb0⟩
                  have L8 := L7.below (below_call (below_alloc_on (Below.refl _ _) _) hb0)
                  clear hb0 L7
                  go_wp2_with (fail)
                  have HC := ho_fm k true (FA.out.or FB.out (by omega)) TT (HO.out _ L8.bel) ll (by omega) he (hlt) (HE2.out)
                  refine HC.mono ?_
                  rintro e w9 ⟨rfl, hb⟩
                  have L9 := L8.below hb
                  clear hb HC L8 TT ll
                  obtain ⟨q0, q1, q2, _, _⟩ := L9.x9.three
                  go_wp2_with (fail)
                  refine (lw_one ⟨3, 0, 0⟩ A n c ts _ (HT.out _ L9.bel) n1 (by omega) (show (0 : Int) ≤ 9223372036854775807 by decide)).mono ?_
                  rintro e w10 ⟨gg, dd, rfl, TT, ll, _, _, hb0⟩
                  have L10 := L9.below (below_call (below_alloc_on (Below.refl _ _) _) hb0)
                  clear hb0 L9
                  go_wp2_with (fail)
                  have HC := ho_fm k false (FA.out.not (by omega)) TT (HO.out _ L10.bel) ll (by omega) he (hlt) (HX2.out)
                  refine HC.mono ?_
                  rintro e w11 ⟨rfl, hb⟩
                  have L11 := L10.below hb
                  clear hb HC L10 TT ll
                  go_wp2_with (fail)
                  go_meet
                  exact ⟨rfl, rfl, L11⟩
                · go_wp2_with (fail)
                  refine (lw_two ⟨4, 0, 0⟩ A B n c m d ts us _ (HT.out _ L5.bel) (HU.out _ L5.bel) n1 (by omega) m1 (by omega) (show (0 : Int) ≤ 9223372036854775807 by decide)).mono ?_
                  rintro e w6 ⟨gg, dd, rfl, TT, ll, _, _, hb0⟩
                  have L6 := L5.below (below_call (below_alloc_on (Below.refl _ _) _) hb0)
                  clear hb0 L5
                  go_wp2_with (fail)
                  have HC := ho_fm k true (FA.out.and FB.out (by omega)) TT (HO.out _ L6.bel) ll (by omega) he (hlt) (HB2.out)
                  refine HC.mono ?_
                  rintro e w7 ⟨rfl, hb⟩
                  have L7 := L6.below hb
                  clear hb HC L6 TT ll
                  go_wp2_with (fail)
                  refine (lw_two ⟨5, 0, 0⟩ A B n c m d ts us _ (HT.out _ L7.bel) (HU.out _ L7.bel) n1 (by omega) m1 (by omega) (show (0 : Int) ≤ 9223372036854775807 by decide)).mono ?_
                  rintro e w8 ⟨gg, dd, rfl, TT, ll, _, _, hb0⟩
                  have L8 := L7.below (below_call (below_alloc_on (Below.refl _ _) _) hb0)
                  clear hb0 L7
                  go_wp2_with (fail)
                  have HC := ho_fm k true (FA.out.or FB.out (by omega)) TT (HO.out _ L8.bel) ll (by omega) he (hlt) (HE2.out)
                  refine HC.mono ?_
                  rintro e w9 ⟨rfl, hb⟩
                  have L9 := L8.below hb
                  clear hb HC L8 TT ll
                  obtain ⟨q0, q1, q2, _, _⟩ := L9.x9.three
                  go_wp2_with (fail)
                  refine (lw_one ⟨3, 0, 0⟩ A n c ts _ (HT.out _ L9.bel) n1 (by omega) (show (0 : Int) ≤ 9223372036854775807 by decide)).mono ?_
                  rintro e w10 ⟨gg, dd, rfl, TT, ll, _, _, hb0⟩
                  have L10 := L9.below (below_call (below_alloc_on (Below.refl _ _) _) hb0)
                  clear hb0 L9
                  go_wp2_with (fail)
                  have HC := ho_fm k false (FA.out.not (by omega)) TT (HO.out _ L10.bel) ll (by omega) he (hlt) (HX2.out)
                  refine HC.mono ?_
                  rintro e w11 ⟨rfl, hb⟩
                  have L11 := L10.below hb
                  clear hb HC L10 TT ll
                  go_wp2_with (fail)
                  go_meet
                  exact ⟨rfl, rfl, L11⟩
            case rest =>
              clear L5
              obtain ⟨rfl, rfl, L5⟩ := hcut
              go_wp2_with (fail)
              go_roundg (p - (k + 1))
              case measure => omega
              case rel => exact ⟨k + 1, by omega, by omega, by go_num, L5⟩

theorem walk (w : World) (A : Option Addr) (n c : Nat) (rs : List (List Value)) (hi : Rows [.int .i64, .int .i64, .int .i64] w A n rs) (hc : n ≤ c) (hr : n * 24 ≤ 140737488351232)
    (B : Option Addr) (m d : Nat) (ru : List (List Value)) (hu : Rows [.int .i64, .int .i64, .int .i64] w B m ru) (hd : m ≤ d) (hz : m * 24 ≤ 140737488351232)
    (O : Option Addr) (p oc : Nat) (ro : List (List Value)) (ho : Rows [.int .i64, .int .i64, .int .i64, .int .i64, .int .i64, .int .i64, .int .i64, .int .i64, .int .i64, .bool, .string] w O p ro) (he : p ≤ oc) (hq : p * 96 ≤ 140737488351232) (bk : Int) (wbk : (Lit.int .u8 bk).wf = true) :
    Calls Try.prog 4 #[.slice A n c, .slice B m d, .agg #[.slice O p oc, .int .u8 bk]] w fun e w' => e = .returned (.bool true) ∧ Below w.heap.size w w' := by
  obtain ⟨ts, h⟩ := Terms.of_rows hi
  obtain ⟨us, g⟩ := Terms.of_rows hu
  obtain ⟨os, hos⟩ := Outs.of_rows ho
  clear hi hu ho
  have c0 : (w.alloc (.cells #[.slice O p oc, .int .u8 bk] 33)).cell? ⟨w.heap.size, 0, none⟩ = some (.slice O p oc) := (box_new w #[.slice O p oc, .int .u8 bk] 33).2.1 0
  have A0 := below_alloc_on (Below.refl w.heap.size w) (.cells #[.slice O p oc, .int .u8 bk] 33)
  have HRa := Lib.hid (fun w' (hb : Below w.heap.size w w') => fo_right A n c ts w' (h.below hb))
  have HRb := Lib.hid (fun w' (hb : Below w.heap.size w w') => fo_right B m d us w' (g.below hb))
  by_cases hn : n ≤ 4
  · have t0 : decide (4 < (n : Int)) = false := decide_eq_false (by omega)
    by_cases hm : m ≤ 4
    · have t1 : decide (4 < (m : Int)) = false := decide_eq_false (by omega)
      by_cases hp : p ≤ 25
      · cases hra : rtB ts n
        · have t2 : decide (25 < (p : Int)) = false := decide_eq_false (by omega)
          rw [hra] at HRa
          clear h g hos hn hm hp hra HRb
          go_enter Try.func4, Try.ntmps4
          go_wp2_with ((first | (go_at_call 13; refine (HRa.out _ A0).mono ?_; rintro e w1 ⟨rfl, hb⟩; have A1 := below_call A0 hb; clear hb A0 c0) | (go_at_call 8; refine (law57_awake _).mono ?_; rintro e w' ⟨rfl, hb'⟩)))
          go_ret
          exact ⟨rfl, below_call A1 hb'⟩
        · cases hrb : rtB us m
          · have t2 : decide (25 < (p : Int)) = false := decide_eq_false (by omega)
            rw [hra] at HRa
            rw [hrb] at HRb
            clear h g hos hn hm hp hra hrb
            go_enter Try.func4, Try.ntmps4
            go_wp2_with ((first | (go_at_call 13; (first | (refine (HRa.out _ A0).mono ?_; rintro e w1 ⟨rfl, hb⟩; have A1 := below_call A0 hb; clear hb A0 c0) | (refine (HRb.out _ A1).mono ?_; rintro e w2 ⟨rfl, hb⟩; have A2 := below_call A1 hb; clear hb A1))) | (go_at_call 8; refine (law57_awake _).mono ?_; rintro e w' ⟨rfl, hb'⟩)))
            go_ret
            exact ⟨rfl, below_call A2 hb'⟩
          · exact few w A n c ts h hc hn hra B m d us g hd hm hrb O p oc os hos he hp bk wbk
      · have t2 : decide (25 < (p : Int)) = true := decide_eq_true (by omega)
        clear h g hos hn hm hp HRa HRb
        go_enter Try.func4, Try.ntmps4
        go_wp2_with (go_at_call 8; refine (law57_awake _).mono ?_; rintro e w' ⟨rfl, hb'⟩)
        go_ret
        exact ⟨rfl, below_call A0 hb'⟩
    · have t1 : decide (4 < (m : Int)) = true := decide_eq_true (by omega)
      clear h g hos hn hm HRa HRb
      go_enter Try.func4, Try.ntmps4
      go_wp2_with (go_at_call 8; refine (law57_awake _).mono ?_; rintro e w' ⟨rfl, hb'⟩)
      go_ret
      exact ⟨rfl, below_call A0 hb'⟩
  · have t0 : decide (4 < (n : Int)) = true := decide_eq_true (by omega)
    clear h g hos hn HRa HRb
    go_enter Try.func4, Try.ntmps4
    go_wp2_with (go_at_call 8; refine (law57_awake _).mono ?_; rintro e w' ⟨rfl, hb'⟩)
    go_ret
    exact ⟨rfl, below_call A0 hb'⟩

set_option maxRecDepth 100000 in
theorem lifted (os : Os) (started : os.Started) (H : Type) (enc : TypeId × Value → H) :
    ReturnsInHanded {} Try.checked os 4 .any (Rows.holdsLawsSpec.pre6 enc Try.prog Try.f4 Rows.holdsLawsRow.domain false) (Rows.holdsLawsSpec.post enc Try.prog Try.f4 false true false false) := by
  refine law_lift started (by kernel_rfl) Try.func4 rfl rfl ?_ (by kernel_rfl)
    (ChangeSpec.witness6 (enc := enc) (C := Try.checked) false ⟨#[], #[.slice none 0 0, .slice none 0 0, .agg #[.slice none 0 0, .int .u8 0]], []⟩ 8 (by kernel_rfl) (by kernel_rfl) (by kernel_rfl) (by kernel_rfl)) ?_
  · intro ds hl
    match ds, hl with
    | [_, _, _], _ => exact ⟨rfl, rfl, rfl⟩
  · intro W base args ds p hval hA hlt hwt
    rw [Try.params4] at hA hval hwt
    obtain ⟨v0, vs0, d0, ds0, p0, q0, hargs, rfl, rfl, h0, r0⟩ := trodAll_cons hA
    obtain ⟨v1, vs1, d1, ds1, p1, q1, rfl, rfl, rfl, h1, r1⟩ := trodAll_cons r0
    obtain ⟨v2, vs2, d2, ds2, p2, q2, rfl, rfl, rfl, h2, r2⟩ := trodAll_cons r1
    obtain ⟨rfl, rfl, rfl⟩ := trodAll_nil r2
    obtain rfl : args = #[v0, v1, v2] := by cases args; simp_all
    have wt0 : ∀ n ∈ d0.weights Try.prog 22, n ≤ reachBytes := fun n hn => by
      have := List.all_eq_true.1 hwt n (DataW.weights_mem_each (j := 0) (t := 22) (d := d0) rfl rfl n hn)
      simpa using this
    have lt0 : ∀ x ∈ p0, x.block < W.heap.size := fun x hx => hlt x (by simp [hx])
    obtain ⟨A0, n0, c0, xs0, rfl, hi0, hc0, hr0⟩ := open_rows_arg (nb := 24) 5 [.int .i64, .int .i64, .int .i64] Try.underlying22 (by kernel_rfl) (by kernel_rfl) (by decide) (by kernel_rfl) (hval 0 22 v0 rfl rfl) h0 lt0 wt0
    have wt1 : ∀ n ∈ d1.weights Try.prog 22, n ≤ reachBytes := fun n hn => by
      have := List.all_eq_true.1 hwt n (DataW.weights_mem_each (j := 1) (t := 22) (d := d1) rfl rfl n hn)
      simpa using this
    have lt1 : ∀ x ∈ p1, x.block < W.heap.size := fun x hx => hlt x (by simp [hx])
    obtain ⟨A1, n1, c1, xs1, rfl, hi1, hc1, hr1⟩ := open_rows_arg (nb := 24) 5 [.int .i64, .int .i64, .int .i64] Try.underlying22 (by kernel_rfl) (by kernel_rfl) (by decide) (by kernel_rfl) (hval 1 22 v1 rfl rfl) h1 lt1 wt1
    have wt2 : ∀ n ∈ d2.weights Try.prog 33, n ≤ reachBytes := fun n hn => by
      have := List.all_eq_true.1 hwt n (DataW.weights_mem_each (j := 2) (t := 33) (d := d2) rfl rfl n hn)
      simpa using this
    have lt2 : ∀ x ∈ p2, x.block < W.heap.size := fun x hx => hlt x (by simp [hx])
    obtain ⟨A2, n2, c2, xs2, g2_0, rfl, hi2, hc2, hr2, w2⟩ := open_case (hval 2 33 v2 rfl rfl) h2 lt2 wt2
    exact walk W A0 n0 c0 xs0 hi0 hc0 hr0 A1 n1 c1 xs1 hi1 hc1 hr1 A2 n2 c2 xs2 hi2 hc2 hr2 g2_0 w2

theorem over : Rows.holdsLawsRow.holds Try.pinned (OpenSpec.ofChange Rows.holdsLawsSpec) :=
  OpenClaim.holds_of_wide 4 Try.f4 rfl rfl rfl rfl rfl rfl rfl ⟨rfl, rfl, rfl, rfl, rfl⟩ rfl rfl rfl rfl rfl (by kernel_rfl) Try.func4 (by kernel_rfl)
    (of_decide_eq_true (by kernel_rfl)) (by unfold Func.isWrapper; first | (rw [if_pos (by decide +kernel)]; kernel_rfl) | (rw [if_neg (by decide +kernel)]; exact ⟨rfl, rfl⟩))
    (fun os started H enc _ => lifted os started H enc)

theorem proved : Rows.HoldsLawsSaid := over
#print axioms proved
end Go.Proofs.Ytmemhlhjkpijpaa.holdsLaws
