/- SpecShifts holds of every list of lights: brighter light by so much has levels so much higher, and the same drops. No condition. -/
import Derived.Test.YtkddledajffdbaaLaw23
import Derived.Test.YtkddledajffdbaaNums
namespace Go.Proofs.Ytkddledajffdbaa.specShifts
open Go.ChangeShapes Go.WideShapes Go.ChangeAt Go.RowKit
set_option linter.unusedVariables false
set_option linter.unusedSimpArgs false
set_option maxRecDepth 100000
attribute [local go_sem] cell_set_ite Near.cell Near.frozen

theorem sub_small {l a : Int} (l0 : -5000 ≤ l) (l1 : l ≤ 5000) (a0 : -5000 ≤ a) (a1 : a ≤ 5000) : subV l a = l - a := by
  have e1 : clV l = l := clV_in (by omega)
  have e2 : clV a = a := clV_in (by omega)
  unfold subV; rw [e1, e2]; exact clV_in (by omega)
/-- Two eyes, the second of which has seen lights that were brighter by D. -/
def Sh (D : Int) (e f : Gz) : Prop := f.bg = e.bg ∧ f.sh = e.sh ∧ f.on = e.on ∧ f.rn = e.rn ∧ f.wt = e.wt ∧ (e.bg = true → f.ba = e.ba + 64 * D ∧ 0 ≤ e.ba ∧ e.ba ≤ 192000)
theorem sh_next {D a : Int} {e f : Gz} (h : Sh D e f) (d0 : 0 ≤ D) (d1 : D ≤ 1000) (a0 : 0 ≤ a) (a1 : a ≤ 3000) :
    Sh D (gzN e a) (gzN f (a + D)) ∧ gzD f (a + D) = gzD e a ∧ cbV (gzN f (a + D)).ba / 64 = cbV (gzN e a).ba / 64 + D := by
  obtain ⟨h1, h2, h3, h4, h5, h6⟩ := h
  obtain ⟨B, hB, b0, b1, hB'⟩ : ∃ B, eyB e.bg e.ba a = B ∧ 0 ≤ B ∧ B ≤ 192000 ∧ eyB f.bg f.ba (a + D) = B + 64 * D := by
    cases hb : e.bg
    · refine ⟨64 * a, ?_, by omega, by omega, ?_⟩
      · unfold eyB; rw [if_neg (by simp), lg_in (by omega) (by omega)]
      · unfold eyB; rw [h1, hb, if_neg (by simp), lg_in (by omega) (by omega)]; omega
    · obtain ⟨q1, q2, q3⟩ := h6 hb
      refine ⟨e.ba, ?_, q2, q3, ?_⟩
      · unfold eyB; rw [if_pos rfl]
      · unfold eyB; rw [h1, hb, if_pos rfl, q1]
  have hS : gzS f (a + D) = gzS e a := by
    unfold gzS eyS
    rw [hB, hB', h2, cb_in (by omega) (by omega), cb_in b0 (by omega)]
    unfold shdB
    rw [sub_small (by omega) (by omega) (by omega) (by omega), sub_small (by omega) (by omega) (by omega) (by omega), show (B + 64 * D) / 64 - (a + D) = B / 64 - a by omega]
  have hE : gzE f (a + D) = gzE e a := by unfold gzE; rw [hS, h3, h4]
  have hba : (gzN f (a + D)).ba = (gzN e a).ba + 64 * D ∧ 0 ≤ (gzN e a).ba ∧ (gzN e a).ba ≤ 192000 := by
    have e1 : (gzN f (a + D)).ba = eyN (eyB f.bg f.ba (a + D)) (a + D) (gzS f (a + D)) := by exact rfl
    have e2 : (gzN e a).ba = eyN (eyB e.bg e.ba a) a (gzS e a) := by exact rfl
    rw [e1, e2, hB, hB', hS]
    cases gzS e a
    · unfold eyN amS
      rw [if_neg (by simp), if_neg (by simp), cb_in (by omega) (by omega), cb_in b0 (by omega), lg_in (by omega) (by omega), lg_in (by omega) (by omega)]
      omega
    · unfold eyN
      rw [if_pos rfl, if_pos rfl, cb_in (by omega) (by omega), cb_in b0 (by omega)]
      omega
  refine ⟨⟨by exact rfl, ?_, ?_, ?_, ?_, fun _ => hba⟩, ?_, ?_⟩
  · show gzS f (a + D) = gzS e a
    exact hS
  · show dbO f.on f.rn (gzS f (a + D)) = dbO e.on e.rn (gzS e a)
    rw [hS, h3, h4]
  · show dbR f.on f.rn (gzS f (a + D)) = dbR e.on e.rn (gzS e a)
    rw [hS, h3, h4]
  · show rfV f.wt (gzE f (a + D)) = rfV e.wt (gzE e a)
    rw [hE, h5]
  · show rfB f.wt (gzE f (a + D)) = rfB e.wt (gzE e a)
    rw [hE, h5]
  · obtain ⟨q1, q2, q3⟩ := hba
    rw [q1, cb_in (by omega) (by omega), cb_in q2 (by omega)]
    omega
def Up (D : Int) (k : Nat) (L M : List Int) : Prop := L.length = k ∧ M.length = k ∧ ∀ i, i < k → 0 ≤ L.getD i 0 ∧ L.getD i 0 ≤ 3000 ∧ M.getD i 0 = L.getD i 0 + D
theorem getD_old {ys : List Int} {x : Int} {i : Nat} (h : i < ys.length) : (ys ++ [x]).getD i 0 = ys.getD i 0 := by
  simp [List.getD, List.getElem?_append_left h]
theorem getD_new {ys : List Int} {x : Int} : (ys ++ [x]).getD ys.length 0 = x := by simp [List.getD]
theorem Up.next {D : Int} {k : Nat} {L M : List Int} {a : Int} (h : Up D k L M) (a0 : 0 ≤ a) (a1 : a ≤ 3000) : Up D (k + 1) (L ++ [a]) (M ++ [a + D]) := by
  obtain ⟨h1, h2, h3⟩ := h
  refine ⟨by simp [h1], by simp [h2], fun i hi => ?_⟩
  by_cases e : i < k
  · rw [getD_old (by omega), getD_old (by omega)]; exact h3 i e
  · obtain rfl : i = k := by omega
    have e1 : (L ++ [a]).getD i 0 = a := by rw [← h1]; exact getD_new
    have e2 : (M ++ [a + D]).getD i 0 = a + D := by rw [← h2]; exact getD_new
    rw [e1, e2]; omega
theorem up_sh {D : Int} {n : Nat} {L M : List Int} (h : Up D n L M) (d0 : 0 ≤ D) (d1 : D ≤ 1000) : ∀ k, k ≤ n → Sh D (gzAt L k) (gzAt M k) ∧ dropsL M k = dropsL L k
  | 0, _ => ⟨⟨rfl, rfl, rfl, rfl, rfl, fun h => absurd h (show ¬ (gz0.bg = true) by decide)⟩, rfl⟩
  | k + 1, hk => by
    obtain ⟨ih, ihd⟩ := up_sh h d0 d1 k (by omega)
    obtain ⟨a0, a1, e⟩ := h.2.2 k (by omega)
    obtain ⟨s1, s2, _⟩ := sh_next ih d0 d1 a0 a1
    rw [← e] at s1 s2
    refine ⟨s1, ?_⟩
    cases hd : gzD (gzAt L k) (L.getD k 0)
    · rw [drops_no hd, drops_no (s2.trans hd), ihd]
    · rw [drops_yes hd, drops_yes (s2.trans hd), ihd]
theorem up_lv {D : Int} {n : Nat} {L M : List Int} (h : Up D n L M) (d0 : 0 ≤ D) (d1 : D ≤ 1000) (k : Nat) (hk : k < n) : lvF M k = lvF L k + D := by
  obtain ⟨ih, _⟩ := up_sh h d0 d1 k (by omega)
  obtain ⟨a0, a1, e⟩ := h.2.2 k (by omega)
  have := (sh_next ih d0 d1 a0 a1).2.2
  rw [← e] at this
  exact this
theorem lv_bd (L : List Int) (k : Nat) : 0 ≤ lvF L k ∧ lvF L k ≤ 4095 := by
  unfold lvF
  generalize (gzAt L (k + 1)).ba = b
  unfold cbV withV
  split <;> (try split) <;> (try split) <;> omega

structure Duo (w wr : World) (va vb : Value) (L M : List Int) : Prop where
  a : wr.ownsRow w.heap.size 3 1 va L.length (L.map (Value.int .i64))
  b : wr.ownsRow w.heap.size 3 1 vb M.length (M.map (Value.int .i64))
  ab : Ap va vb
  bel : Below w.heap.size w wr
namespace Duo
variable {w wr w1 : World} {va vb : Value} {L M : List Int}
theorem nil (w : World) : Duo w w (.slice none 0 0) (.slice none 0 0) [] [] :=
  ⟨World.ownsRow_nil _ _ _ _, World.ownsRow_nil _ _ _ _, (fun g h => nomatch h), Below.refl _ _⟩
theorem a_next {va' : Value} {x : Int} {o : Obj} (h : Duo w wr va vb L M) (ho : w1.ownsRow w.heap.size 3 1 va' (L.length + 1) (L.map (Value.int .i64) ++ [.int .i64 x])) (hg : (wr.alloc o).grownBy w1 va.ownBlock) (ha : va'.ownBlock = va.ownBlock ∨ va'.ownBlock = some (wr.heap.size + 1)) :
    Duo w w1 va' vb (L ++ [x]) M :=
  ⟨by simpa using ho, (h.b.alloc o).kept hg h.ab.symm.ne, (h.ab.symm.moved ha (fun g hg => by have := (h.b.lt g hg).2; omega)).symm, Tri.bel_next h.bel h.a hg⟩
theorem b_next {vb' : Value} {x : Int} {o : Obj} (h : Duo w wr va vb L M) (ho : w1.ownsRow w.heap.size 3 1 vb' (M.length + 1) (M.map (Value.int .i64) ++ [.int .i64 x])) (hg : (wr.alloc o).grownBy w1 vb.ownBlock) (ha : vb'.ownBlock = vb.ownBlock ∨ vb'.ownBlock = some (wr.heap.size + 1)) :
    Duo w w1 va vb' L (M ++ [x]) :=
  ⟨(h.a.alloc o).kept hg h.ab.ne, by simpa using ho, h.ab.moved ha (fun g hg => by have := (h.a.lt g hg).2; omega), Tri.bel_next h.bel h.b hg⟩
end Duo

set_option maxHeartbeats 4000000 in
theorem walk (w : World) (A : Option Addr) (n c : Nat) (ss : List Int) (hi : Nums .u16 w A n ss) (hc : n ≤ c) (hr : n * 2 ≤ 140737488351232) (wx : ∀ x ∈ ss, (Lit.int .u16 x).wf = true) (b : Int) (wb : (Lit.int .u16 b).wf = true) :
    Calls Try.prog 10 #[.slice A n c, .int .u16 b] w fun e w' => e = .returned (.bool true) ∧ Below w.heap.size w w' := by
  by_cases hn : 150 < n
  · have t0 : decide (150 < (n : Int)) = true := decide_eq_true (by omega)
    clear hi
    go_enter Try.func10, Try.ntmps10
    go_wp2_with (go_at_call 18; refine (law23_awake w).mono ?_; rintro e w' ⟨rfl, hb⟩)
    go_ret
    exact ⟨rfl, hb⟩
  · have t0 : decide (150 < (n : Int)) = false := decide_eq_false (by omega)
    have HI := Lib.hid hi
    have b0 : 0 ≤ b ∧ b ≤ 65535 := by simp only [Lit.wf, IntKind.min, IntKind.max, IntKind.signed, IntKind.bits, Bool.and_eq_true] at wb; simpa using wb
    obtain ⟨b0, b1⟩ := b0
    obtain ⟨D, hD⟩ : ∃ D : Int, b % 1001 = D := ⟨_, rfl⟩
    have d0 : 0 ≤ D := by omega
    have d1 : D ≤ 1000 := by omega
    have HW : ∀ k, k < n → 0 ≤ ss.getD k 0 ∧ ss.getD k 0 ≤ 65535 := fun k hk => by
      have hl : k < ss.length := by have := hi.1; omega
      have := wx (ss.getD k 0) (by simp only [List.getD, List.getElem?_eq_getElem hl, Option.getD_some]; exact List.getElem_mem hl)
      simp only [Lit.wf, IntKind.min, IntKind.max, IntKind.signed, IntKind.bits, Bool.and_eq_true] at this; simpa using this
    have HWX := Lib.hid HW
    clear hi wx wb HW
    go_enter Try.func10, Try.ntmps10
    go_wp2
    rw [hD]
    go_loopg [6, 7, 21] n (fun gk x y i wr => ∃ (k : Nat) (L M : List Int), k ≤ n ∧ gk = n - k ∧ i = .int .i64 k ∧ Duo w wr x y L M ∧ Up D k L M)
    case atStart => exact ⟨0, [], [], by omega, rfl, rfl, Duo.nil w, rfl, rfl, fun i h => absurd h (by omega)⟩
    case round =>
      clear hD
      obtain ⟨k, L, M, hk, rfl, rfl, hd, hu⟩ := hrel
      by_cases hlt : k < n
      · obtain ⟨bb, off, rfl, hbs, hcell⟩ := HI.out.at_ hlt
        have hck := (hd.bel.cell (p := ⟨bb, off + k, none⟩) hbs).trans hcell
        obtain ⟨z0, z1⟩ := HWX.out k hlt
        clear hcell
        generalize ss.getD k 0 = z at *
        obtain ⟨a, ha⟩ : ∃ a : Int, z % 3001 = a := ⟨_, rfl⟩
        have a0 : 0 ≤ a := by omega
        have a1 : a ≤ 3000 := by omega
        have wa : IntKind.i64.wrap (a + D) = a + D := by rw [IntKind.wrap_i64]; omega
        have HU := Lib.hid (hu.next a0 a1)
        have HD := Lib.hid hd
        have hsz := hd.bel.size
        have hll : L.length ≤ 17592186044414 := by rw [hu.1]; omega
        have hml : M.length ≤ 17592186044414 := by rw [hu.2.1]; omega
        have hbl := hd.bel
        clear hd hu
        go_wp2_with (at_builtin; refine app_int_at rfl _ _ rfl _ rfl rfl HD.out.a hsz hll ?_)
        intro x1 w1 h1 h2 h3
        have HD1 := Lib.hid (HD.out.a_next h1 h2 h3)
        have hsz1 : w.heap.size ≤ w1.heap.size := (HD.out.a_next h1 h2 h3).bel.size
        have hck1 := ((HD.out.a_next h1 h2 h3).bel.cell (p := ⟨bb, off + k, none⟩) hbs).trans ((hbl.cell (p := ⟨bb, off + k, none⟩) hbs).symm.trans hck)
        clear h1 h2 h3 HD hck
        go_wp2_with (at_builtin; refine app_int_at rfl _ _ rfl _ rfl rfl HD1.out.b hsz1 hml ?_)
        intro y1 w2 h1 h2 h3
        have HD2 := Lib.hid (HD1.out.b_next h1 h2 h3)
        clear h1 h2 h3 HD1 hck1 ha wa
        go_wp2
        go_roundg (n - (k + 1))
        case measure => omega
        case rel => exact ⟨k + 1, _, _, by omega, by omega, by go_num, HD2.out, HU.out⟩
      · obtain rfl : k = n := by omega
        obtain ⟨P, d, hP, hle⟩ := own_form hd.a
        obtain ⟨Q, e, hQ, hle2⟩ := own_form hd.b
        subst hP hQ
        have HL := Lib.hid (Ints.of_own hd.a rfl)
        have HM := Lib.hid (Ints.of_own hd.b rfl)
        have hb := hd.bel
        have HUP := Lib.hid hu
        have hl1 := hu.1
        have hl2 := hu.2.1
        rw [hl1] at HL hle ⊢
        rw [hl2] at HM hle2 ⊢
        clear hd hu hl1 hl2
        go_wp2_with (fail)
        refine (sp_levels P k d L wr HL.out (by omega)).mono ?_
        rintro x w1 ⟨g, rfl, C1, hb1⟩
        have A1 := below_call hb hb1
        have HL1 := Lib.hid (HL.out.below hb1)
        have HM1 := Lib.hid (HM.out.below hb1)
        have HC1 := Lib.hid C1
        clear hb hb1 HL HM C1
        go_wp2_with (fail)
        refine (sp_levels Q k e M w1 HM1.out (by omega)).mono ?_
        rintro x w2 ⟨h, rfl, C2, hb1⟩
        have A2 := below_call A1 hb1
        have HL2 := Lib.hid (HL1.out.below hb1)
        have HM2 := Lib.hid (HM1.out.below hb1)
        have HC2 := Lib.hid (HC1.out.below hb1)
        have HE2 := Lib.hid C2
        clear A1 hb1 HL1 HM1 HC1 C2
        go_wp2
        go_loopg [63] k (fun gk i wr => ∃ j : Nat, j ≤ k ∧ gk = k - j ∧ i = .int .i64 j ∧ Below w.heap.size w wr ∧ Ints wr P k L ∧ Ints wr Q k M ∧ Col wr g k (fun i => .int .i64 (lvF L i)) ∧ Col wr h k (fun i => .int .i64 (lvF M i)))
        case atStart => exact ⟨0, by omega, rfl, rfl, A2, HL2.out, HM2.out, HC2.out, HE2.out⟩
        case round =>
          clear A2 HL2 HM2 HC2 HE2
          obtain ⟨j, hj, rfl, rfl, A2, I1, I2, C1, C2⟩ := hrel
          by_cases hjl : j < k
          · have c0 := C1.cell j hjl
            have c1 := C2.cell j hjl
            have hlv := up_lv HUP.out d0 d1 j hjl
            obtain ⟨v0, v1⟩ := lv_bd L j
            simp only [hlv] at c1
            have l1 := C1.lt
            have l2 := C2.lt
            generalize lvF L j = v at *
            have wv : IntKind.i64.wrap (v + D) = v + D := by rw [IntKind.wrap_i64]; omega
            have HI1 := Lib.hid I1
            have HI2 := Lib.hid I2
            have HC1 := Lib.hid C1
            have HC2 := Lib.hid C2
            clear I1 I2 C1 C2 hlv
            go_wp2
            refine wp_region_calm (by kernel_rfl) (by kernel_rfl) ?_
            repeat (go_big_quiet_step ((fail)))
            refine wpQuiet_nil ?_
            intro _ hw'
            obtain ⟨u, rfl⟩ := hw'
            have A3 := below_call A2 u.below
            have K1 := Lib.hid (HI1.out.below u.below)
            have K2 := Lib.hid (HI2.out.below u.below)
            have K3 := Lib.hid (HC1.out.below u.below)
            have K4 := Lib.hid (HC2.out.below u.below)
            clear c0 c1 l1 l2 HI1 HI2 HC1 HC2 A2 wv
            generalize u.at_ = w4 at *
            go_wp2
            go_roundg (k - (j + 1))
            case measure => omega
            case rel => exact ⟨j + 1, by omega, by omega, by go_num, A3, K1.out, K2.out, K3.out, K4.out⟩
          · obtain rfl : j = k := by omega
            have K1 := Lib.hid I1
            have K2 := Lib.hid I2
            clear I1 I2 C1 C2
            have hdr := (up_sh HUP.out d0 d1 j (Nat.le_refl _)).2
            have hdl := dropsL_len L j
            go_wp2_with (fail)
            refine (sp_drops P j d L wr K1.out (by omega)).mono ?_
            rintro x w5 ⟨X, dx, rfl, hx1, hx, hb1⟩
            have A5 := below_call A2 hb1
            have K3 := Lib.hid (K2.out.below hb1)
            have K4 := Lib.hid hx
            clear A2 hb1 hx K1 K2
            go_wp2_with (fail)
            refine (sp_drops Q j e M w5 K3.out (by omega)).mono ?_
            rintro x w6 ⟨Y, dy, rfl, hy1, hy, hb1⟩
            have A6 := below_call A5 hb1
            have K5 := Lib.hid (K4.out.below hb1)
            rw [hdr] at hy hy1 ⊢
            have K6 := Lib.hid hy
            clear A5 hb1 hy K3 K4 hdr
            go_wp2_with (fail)
            have hq := law4_ints X Y (dropsL L j).length dx (dropsL L j).length dy (dropsL L j) (dropsL L j) w6 K5.out K6.out (by omega) (by omega)
            rw [eqL_refl] at hq
            refine hq.mono ?_
            rintro x w7 ⟨rfl, t, rfl⟩
            have A7 := below_drewN A6 t
            clear hq A6 K5 K6
            go_wp2_with (go_at_call 18; refine (law23_awake _).mono ?_; rintro e w' ⟨rfl, hb'⟩)
            go_ret
            exact ⟨rfl, below_call A7 hb'⟩

set_option maxRecDepth 100000 in
theorem lifted (os : Os) (started : os.Started) (H : Type) (enc : TypeId × Value → H) :
    ReturnsInHanded {} Try.checked os 10 .any (Rows.specShiftsSpec.pre6 enc Try.prog Try.f10 Rows.specShiftsRow.domain false) (Rows.specShiftsSpec.post enc Try.prog Try.f10 false true false false) := by
  refine law_lift started (by kernel_rfl) Try.func10 rfl rfl ?_ (by kernel_rfl)
    (ChangeSpec.witness6 (enc := enc) (C := Try.checked) false ⟨#[], #[.slice none 0 0, .int .u16 0], []⟩ 8 (by kernel_rfl) (by kernel_rfl) (by kernel_rfl) (by kernel_rfl)) ?_
  · intro ds hl
    match ds, hl with
    | [_, _], _ => exact ⟨rfl, rfl, rfl⟩
  · intro W base args ds p hval hA hlt hwt
    rw [Try.params10] at hA hval hwt
    obtain ⟨v0, vs0, d0, ds0, p0, q0, hargs, rfl, rfl, h0, r0⟩ := trodAll_cons hA
    obtain ⟨v1, vs1, d1, ds1, p1, q1, rfl, rfl, rfl, h1, r1⟩ := trodAll_cons r0
    obtain ⟨rfl, rfl, rfl⟩ := trodAll_nil r1
    obtain rfl : args = #[v0, v1] := by cases args; simp_all
    have wt0 : ∀ n ∈ d0.weights Try.prog 58, n ≤ reachBytes := fun n hn => by
      have := List.all_eq_true.1 hwt n (DataW.weights_mem_each (j := 0) (t := 58) (d := d0) rfl rfl n hn)
      simpa using this
    have lt0 : ∀ x ∈ p0, x.block < W.heap.size := fun x hx => hlt x (by simp [hx])
    obtain ⟨A0, n0, c0, xs0, rfl, hi0, hc0, hr0, w0⟩ := open_nums_arg (nb := 2) Try.underlying58 Try.underlying38 (by kernel_rfl) (by kernel_rfl) (hval 0 58 v0 rfl rfl) h0 lt0 wt0
    obtain ⟨a1, rfl, rfl, rfl, w1⟩ := open_int Try.underlying38 (hval 1 38 v1 rfl rfl) h1
    exact walk W A0 n0 c0 xs0 hi0 hc0 hr0 w0 a1 w1

theorem over : Rows.specShiftsRow.holds Try.pinned (OpenSpec.ofChange Rows.specShiftsSpec) :=
  OpenClaim.holds_of_wide 10 Try.f10 rfl rfl rfl rfl rfl rfl rfl ⟨rfl, rfl, rfl, rfl, rfl⟩ rfl rfl rfl rfl rfl (by kernel_rfl) Try.func10 (by kernel_rfl)
    (of_decide_eq_true (by kernel_rfl)) (by unfold Func.isWrapper; first | (rw [if_pos (by decide +kernel)]; kernel_rfl) | (rw [if_neg (by decide +kernel)]; exact ⟨rfl, rfl⟩))
    (fun os started H enc _ => lifted os started H enc)

theorem proved : Rows.SpecShiftsSaid := over
#print axioms proved
end Go.Proofs.Ytkddledajffdbaa.specShifts
