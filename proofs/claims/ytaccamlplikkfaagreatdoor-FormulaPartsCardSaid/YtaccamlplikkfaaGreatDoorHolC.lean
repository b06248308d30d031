/- Contract of formula.Parts. -/
import Derived.Test.YtaccamlplikkfaaGreatDoorHolB
import Derived.Test.YtaccamlplikkfaaGreatDoorWorld
namespace Go.Proofs.YtaccamlplikkfaaGreatDoor
open Go.RowKit
set_option linter.unusedVariables false
set_option linter.unusedSimpArgs false
set_option maxRecDepth 100000
attribute [local go_sem] cell_set_ite Near.cell Near.frozen

theorem terms_info : (Tryz.prog.info? 22).map (fun i => (i.zero, i.size, i.bytes)) = some (some (.slice none 0 0), 1, 24) := by kernel_rfl
/-- A stretch of parts, as a list of its own. -/
def Pc (w : World) (v : Value) (b m : Nat) (ts : Nat → Tm) : Prop := ∃ g c, v = .slice (some ⟨g, 0, none⟩) m c ∧ Terms w (some ⟨g, 0, none⟩) m (from_ ts b) ∧ m ≤ c
theorem Pc.below {w w' : World} {v : Value} {b m : Nat} {ts : Nat → Tm} (h : Pc w v b m ts) (hb : Below w.heap.size w w') : Pc w' v b m ts := by
  obtain ⟨g, c, e, ht, hm⟩ := h
  exact ⟨g, c, e, ht.below hb, hm⟩
theorem Terms.kept {w w' : World} {g n : Nat} {ts : Nat → Tm} {r : Option Nat} (h : Terms w (some ⟨g, 0, none⟩) n ts) (hg : w.grownBy w' r) (hr : some g ≠ r) : Terms w' (some ⟨g, 0, none⟩) n ts := ⟨h.1, fun h0 => by
  obtain ⟨b, off, e, hl, hc⟩ := h.2 h0
  cases e
  refine ⟨g, 0, rfl, Nat.lt_of_lt_of_le hl hg.size, fun i hi => ?_⟩
  have hx : ∀ k, w'.cell? ⟨g, k, none⟩ = w.cell? ⟨g, k, none⟩ := fun k => World.cell?_of_block (hg.block g hl hr)
  rw [hx, hx, hx]
  exact hc i hi⟩
/-- What was found, from the last part on: k stretches, the last of which begins at x. -/
def PtS (ts : Nat → Tm) (e : Nat) (w : World) (r : Option Nat) : Nat → Nat → List Value → Prop
  | 0, x, vs => x = e ∧ vs = []
  | k + 1, x, vs => ∃ x' vs' g c, PtS ts e w r k x' vs' ∧ Bgn ts x' x ∧ vs = vs' ++ [.slice (some ⟨g, 0, none⟩) (x' - x) c] ∧ Terms w (some ⟨g, 0, none⟩) (x' - x) (from_ ts x) ∧ some g ≠ r ∧ g < w.heap.size ∧ x' - x ≤ c
theorem PtS.kept {ts : Nat → Tm} {e : Nat} {w w1 : World} {o : Obj} {r r' : Option Nat} (hg : (w.alloc o).grownBy w1 r) (hr : r' = r ∨ r' = some (w.heap.size + 1)) : ∀ {k x vs}, PtS ts e w r k x vs → PtS ts e w1 r' k x vs
  | 0, _, _, h => h
  | k + 1, x, vs, ⟨x', vs', g, c, h1, h2, h3, h4, h5, h6, h7⟩ => by
    refine ⟨x', vs', g, c, PtS.kept hg hr h1, h2, h3, (h4.below (below_alloc_on (Below.refl _ _) o)).kept hg h5, ?_, ?_, h7⟩
    · rcases hr with e | e
      · rw [e]; exact h5
      · rw [e]; intro he; cases he; omega
    · have := hg.size; simp at this; omega
theorem PtS.below {ts : Nat → Tm} {e : Nat} {w w1 : World} {r : Option Nat} (hb : Below w.heap.size w w1) : ∀ {k x vs}, PtS ts e w r k x vs → PtS ts e w1 r k x vs
  | 0, _, _, h => h
  | k + 1, x, vs, ⟨x', vs', g, c, h1, h2, h3, h4, h5, h6, h7⟩ => ⟨x', vs', g, c, PtS.below hb h1, h2, h3, h4.below hb, h5, Nat.lt_of_lt_of_le h6 hb.size, h7⟩
theorem PtS.rd {ts : Nat → Tm} {e : Nat} {w : World} {r : Option Nat} : ∀ {k x vs}, PtS ts e w r k x vs → rdN ts x + k = rdN ts e ∧ x ≤ e ∧ vs.length = k
  | 0, _, _, ⟨h1, h2⟩ => by subst h1; subst h2; exact ⟨rfl, Nat.le_refl _, rfl⟩
  | k + 1, x, vs, ⟨x', vs', g, c, h1, h2, h3, _⟩ => by
    obtain ⟨i1, i2, i3⟩ := PtS.rd h1
    obtain ⟨b1, b2, _⟩ := h2
    subst h3
    exact ⟨by omega, by omega, by simp [i3]⟩
/-- What a part makes of what it needs. -/
def cmbM (t : Tm) (S : Nat → Mn) : Mn := if ndN t.op = 0 then aloM t else if ndN t.op = 1 then unaM t (S 0) else binM t.op (S 0) (S 1)
/-- The formulas that the last one of e + 1 parts needs, as they lie. -/
def PaR (ts : Nat → Tm) (e : Nat) (w : World) (A : Option Addr) : Prop := ∃ (F : Nat → Value) (bg ln : Nat → Nat), Vals w A (ndN (ts e).op) F ∧
  (∀ i, i < ndN (ts e).op → Pc w (F i) (bg i) (ln i) ts ∧ rtB (from_ ts (bg i)) (ln i) = true ∧ ln i ≤ e) ∧ mnF ts (e + 1) = cmbM (ts e) (fun i => mnF (from_ ts (bg i)) (ln i))
theorem from_zero (ts : Nat → Tm) : from_ ts 0 = ts := by funext i; show ts (0 + i) = ts i; rw [Nat.zero_add]
theorem par_none {ts : Nat → Tm} {e : Nat} (h : rtB ts (e + 1) = true) (hn : ndN (ts e).op = 0) (w : World) (A : Option Addr) : PaR ts e w A :=
  ⟨fun _ => undef, fun _ => 0, fun _ => 0, fun h0 => by omega, fun i hi => by omega, by unfold cmbM; rw [if_pos hn]; exact (mn_alone h hn).2⟩
theorem par_one {ts : Nat → Tm} {e x : Nat} (h : rtB ts (e + 1) = true) (hn : ndN (ts e).op = 1) {w : World} {r : Option Nat} {vs : List Value} (hs : PtS ts e w r 1 x vs) {base g d : Nat} (ho : w.ownsRow base 22 1 (.slice (some ⟨g, 0, none⟩) 1 d) 1 vs) : PaR ts e w (some ⟨g, 0, none⟩) := by
  obtain ⟨x', vs', g1, c, ⟨rfl, rfl⟩, h2, h3, h4, _, _, h7⟩ := hs
  obtain ⟨m1, m2⟩ := mn_una h hn
  obtain ⟨_, ho2, hr2⟩ := rt_parts m1
  have hx : x = 0 := rd_zero (n := x') (by have := h2.1; omega) ho2 (by have := h2.2.1; omega)
  subst hx
  subst h3
  rw [Nat.sub_zero, from_zero] at h4
  rw [Nat.sub_zero] at h7
  refine ⟨_, fun _ => 0, fun _ => x', by rw [hn]; exact Vals.of_own ho, fun i hi => ?_, ?_⟩
  · obtain rfl : i = 0 := by omega
    refine ⟨⟨g1, c, by simp, by rw [from_zero]; exact h4, h7⟩, by rw [from_zero]; exact m1, Nat.le_refl _⟩
  · unfold cmbM
    rw [if_neg (by omega), if_pos hn]
    simp only [from_zero]
    exact m2
theorem par_two {ts : Nat → Tm} {e x : Nat} (h : rtB ts (e + 1) = true) (hn : ndN (ts e).op = 2) {w wr : World} {r : Option Nat} {g1 g2 m1 m2 c1 c2 : Nat} (hs : PtS ts e wr r 2 x [.slice (some ⟨g1, 0, none⟩) m1 c1, .slice (some ⟨g2, 0, none⟩) m2 c2]) {base g d : Nat}
    (hgr : wr.grownBy w (some g)) (hr : r = some g) (ho : w.ownsRow base 22 1 (.slice (some ⟨g, 0, none⟩) 2 d) 2 [.slice (some ⟨g2, 0, none⟩) m2 c2, .slice (some ⟨g1, 0, none⟩) m1 c1]) : PaR ts e w (some ⟨g, 0, none⟩) := by
  obtain ⟨x', vs', k2, c2', ⟨x'', vs'', k1, c1', ⟨rfl, rfl⟩, a2, a3, a4, a5, _, a7⟩, b2, b3, b4, b5, _, b7⟩ := hs
  subst a3
  simp at b3
  obtain ⟨⟨rfl, rfl, rfl⟩, ⟨rfl, rfl, rfl⟩⟩ := b3
  obtain ⟨n1, n2, n3⟩ := mn_bin h hn a2.1 a2.2.1 a2.2.2
  obtain ⟨_, ho2, hr2⟩ := rt_parts n1
  have hx : x = 0 := rd_zero (n := x') (by have := b2.1; omega) ho2 (by have := b2.2.1; omega)
  subst hx
  subst hr
  rw [Nat.sub_zero, from_zero] at b4
  rw [Nat.sub_zero] at b7
  refine ⟨_, fun i => if i = 0 then 0 else x', fun i => if i = 0 then x' else x'' - x', by rw [hn]; exact Vals.of_own ho, fun i hi => ?_, ?_⟩
  · match i, hi with
    | 0, _ =>
      refine ⟨⟨g2, c2, by simp, ?_, b7⟩, ?_, ?_⟩
      · show Terms w _ x' (from_ ts 0)
        rw [from_zero]; exact b4.kept hgr b5
      · show rtB (from_ ts 0) x' = true
        rw [from_zero]; exact n1
      · show x' ≤ x''
        have := a2.1; omega
    | 1, _ =>
      refine ⟨⟨g1, c1, by simp, a4.kept hgr a5, a7⟩, n2, ?_⟩
      show x'' - x' ≤ x''
      omega
    | i + 2, hi => omega
  · unfold cmbM
    rw [if_neg (by omega), if_neg (by omega)]
    show _ = binM _ (mnF (from_ ts 0) x') (mnF (from_ ts x') (x'' - x'))
    rw [from_zero]
    exact n3
def PartsR (ts : Nat → Tm) (e : Nat) (w : World) (r : Ending) (w' : World) : Prop := ∃ A c, r = .returned (.slice A (ndN (ts e).op) c) ∧ PaR ts e w' A ∧ Below w.heap.size w w'
theorem Terms.part {w : World} {b off n e x : Nat} {ts : Nat → Tm} (h : Terms w (some ⟨b, off, none⟩) n ts) (he : e ≤ n) (hx : x ≤ e) : Terms w (some ⟨b, off + x * 3, none⟩) (e - x) (from_ ts x) :=
  ⟨fun i hi => h.1 (x + i) (by omega), fun h0 => by
    obtain ⟨b', off', ea, hl, hc⟩ := h.2 (by omega)
    cases ea
    refine ⟨b, off + x * 3, rfl, hl, fun i hi => ?_⟩
    have := hc (x + i) (by omega)
    rw [show off + x * 3 + i * 3 = off + (x + i) * 3 by omega]
    exact this⟩
set_option maxHeartbeats 4000000 in
theorem fo_parts (A : Option Addr) (e c : Nat) (ts : Nat → Tm) (w : World) (h : Terms w A (e + 1) ts) (hr : rtB ts (e + 1) = true) (hc : e + 1 ≤ c) :
    Calls Tryz.prog 10 #[.slice A (e + 1 : Nat) c] w (PartsR ts e w) := by
  obtain ⟨h40, ho, hrd⟩ := rt_parts hr
  have hn0 := rd_next ts (Nat.lt_succ_self e) ho
  have hnl := nd_le (ts e).op
  obtain ⟨b, off, rfl, hbs, hcell⟩ := h.2 (by omega)
  have A0 : Below w.heap.size w w := Below.refl _ _
  have HR := Lib.hid (fun w' (hb : Below w.heap.size w w') => fo_right (some ⟨b, off, none⟩) (e + 1) c ts w' (h.below hb))
  have HB := Lib.hid (fun x w' (hb : Below w.heap.size w w') (h1 : x ≤ e + 1) (h2 : 1 ≤ rdN ts x) => fo_begins (some ⟨b, off, none⟩) (e + 1) c x ts w' (h.below hb) ho h1 h2 (by omega))
  have HC := Lib.hid (fun x y d w' (hb : Below w.heap.size w w') (h1 : y < x) (h2 : x ≤ e + 1) => sl_clone (some ⟨b, off + y * 3, none⟩) (x - y) d (from_ ts y) w' ((h.below hb).part h2 (by omega)) (by omega) (by omega))
  have H2 := Lib.hid (fun op w => fo_needs op w)
  have HRD := Lib.hid (show rdN ts e = ndN (ts e).op by omega)
  have HT := Lib.hid h
  have HRT := Lib.hid hr
  have c0 := Lib.hid (fun w' (hb : Below w.heap.size w w') => (hb.cell (p := ⟨b, off + e * 3, none⟩) hbs).trans (hcell e (by omega)).1)
  rw [hr] at HR
  clear h hr hcell ho hrd hn0
  go_enter Tryz.func10, Tryz.ntmps10
  go_wp2_with (fail)
  refine (HR.out _ A0).mono ?_
  rintro r w1 ⟨rfl, hb⟩
  have A1 := below_call A0 hb
  have c1 := c0.out _ A1
  have we : IntKind.i64.wrap (((e + 1 : Nat) : Int) - 1) = (e : Int) := by rw [IntKind.wrap_i64]; omega
  clear hb A0
  go_wp2_with (go_at_call 16; refine (H2.out _ _).mono ?_; rintro e w' ⟨rfl, rfl⟩)
  go_loopg [3, 4, 5, 18] (ndN (ts e).op) (fun gk x v y i wr => ∃ (k x0 : Nat) (vs : List Value), k ≤ ndN (ts e).op ∧ gk = ndN (ts e).op - k ∧ i = .int .i64 k ∧ x = .int .i64 x0 ∧ PtS ts e wr v.ownBlock k x0 vs ∧ GrV 22 w vs v wr)
  case atStart => exact ⟨0, e, [], by omega, rfl, rfl, rfl, ⟨rfl, rfl⟩, GrV.nil_at _ A1⟩
  case round =>
    obtain ⟨k, x0, vs, hk, rfl, rfl, rfl, hp, hg⟩ := hrel
    obtain ⟨p1, p2, p3⟩ := hp.rd
    have hre := HRD.out
    by_cases hlt : k < ndN (ts e).op
    · have A1 := hg.bel
      have HP := Lib.hid hp
      have HG := Lib.hid hg
      have HL := Lib.hid p3
      have hl40 : vs.length ≤ 40 := by omega
      clear hp hg p3
      go_wp2_with (fail)
      refine (HB.out x0 _ A1 (by omega) (by omega)).mono ?_
      rintro r w' ⟨b1, rfl, HBg, rfl⟩
      have hb1 := HBg.1
      have HBG := Lib.hid HBg
      have hle : (b1 : Int) ≤ (x0 : Int) := by omega
      clear HBg
      go_wp2_with (fail)
      refine (HC.out x0 b1 (c - b1) _ A1 hb1 (by omega)).mono ?_
      rintro r w2 ⟨g2, d2, rfl, T2, k2, l2, hb, hd2⟩
      have HD2 := Lib.hid hd2
      have A2 := below_call A1 hb
      have G2 := Lib.hid (HG.out.below hb)
      have P2 := Lib.hid (HP.out.below hb)
      have sz2 := A2.size
      have HT2 := Lib.hid T2
      have hne : some g2 ≠ u4.ownBlock := fun he => by
        have := (HG.out.own.lt g2 he.symm).2
        omega
      have HNE := Lib.hid hne
      clear hb HG HP T2 A1 hne hd2
      go_wp2_with (at_builtin; refine app_val_at rfl _ _ 32 22 _ _ rfl Tryz.underlying32 terms_info rfl _ rfl rfl rfl G2.out.own sz2 (by omega) (by omega) ?_)
      intro v' w3 h1 h2 h3
      have G3 := Lib.hid (G2.out.next h1 h2)
      have P3 := Lib.hid (show PtS ts e w3 v'.ownBlock (k + 1) b1 _ from ⟨x0, vs, g2, d2, PtS.kept h2 h3 P2.out, HBG.out, rfl, (HT2.out.below (below_alloc_on (Below.refl _ _) _)).kept h2 HNE.out, by
        rcases h3 with e | e
        · rw [e]; exact HNE.out
        · rw [e]; intro he; cases he; omega, by have := h2.size; simp at this; omega, HD2.out⟩)
      clear h1 h2 h3 G2 P2 HT2
      go_wp2_with (fail)
      go_roundg (ndN (ts e).op - (k + 1))
      case measure => omega
      case rel => exact ⟨k + 1, b1, _, by omega, rfl, by go_num, rfl, P3.out, G3.out⟩
    · obtain rfl : k = ndN (ts e).op := by omega
      have A1 := hg.bel
      rcases nd_ways (ts e).op with hn | hn | hn
      · obtain rfl : vs = [] := List.eq_nil_of_length_eq_zero (by omega)
        obtain ⟨P, d, hP, _⟩ := hg.form
        subst hP
        have HX := Lib.hid (par_none HRT.out hn wr P)
        clear hp hg p3
        have HN := Lib.hid hn
        rw [hn]
        clear hn hlt hk
        go_wp2_with (fail)
        refine (sl_rev_few P 0 d (by omega) _).mono ?_
        rintro r w' ⟨⟨_, rfl⟩, rfl⟩
        go_wp2_with (fail)
        all_goals go_ret
        all_goals exact ⟨P, d, by simp [HN.out], HX.out, A1⟩
      · obtain ⟨x, rfl⟩ : ∃ x, vs = [x] := List.length_eq_one_iff.1 (by omega)
        obtain ⟨g, d, rfl⟩ : ∃ g d, u4 = .slice (some ⟨g, 0, none⟩) 1 d := by
          rcases hg.own.2 with ⟨_, h0⟩ | ⟨g, cap, cur, hv, _⟩
          · simp at h0
          · exact ⟨g, cap, hv⟩
        rw [hn] at hp
        have HX := Lib.hid (par_one HRT.out hn hp hg.own)
        clear hp hg p3
        have HN := Lib.hid hn
        rw [hn]
        clear hn hlt hk
        go_wp2_with (fail)
        refine (sl_rev_few _ 1 d (by omega) _).mono ?_
        rintro r w' ⟨⟨_, rfl⟩, rfl⟩
        go_wp2_with (fail)
        all_goals go_ret
        all_goals exact ⟨_, d, by simp [HN.out], HX.out, A1⟩
      · rw [hn] at hp
        obtain ⟨y1, y2, g1, c1, m1, g2, c2, m2, hvs⟩ : ∃ y1 y2 g1 c1 m1 g2 c2 m2, vs = [.slice (some ⟨g1, 0, none⟩) m1 c1, .slice (some ⟨g2, 0, none⟩) m2 c2] ∧ y1 = 0 ∧ y2 = 0 := by
          obtain ⟨x', vs', g2, c2, ⟨x'', vs'', g1, c1, ⟨_, h0⟩, _, h1, _⟩, _, h2, _⟩ := id hp
          subst h0
          subst h1
          exact ⟨0, 0, g1, c1, _, g2, c2, _, by rw [h2]; rfl, rfl, rfl⟩
        obtain ⟨rfl, _, _⟩ := hvs
        obtain ⟨g, d, rfl⟩ : ∃ g d, u4 = .slice (some ⟨g, 0, none⟩) 2 d := by
          rcases hg.own.2 with ⟨_, h0⟩ | ⟨g, cap, cur, hv, _⟩
          · simp at h0
          · exact ⟨g, cap, hv⟩
        have HP := Lib.hid hp
        have HO := Lib.hid hg.own
        have HGB := Lib.hid hg.bel
        clear hp hg p3
        have HN := Lib.hid hn
        rw [hn]
        clear hn hlt hk
        go_wp2_with (fail)
        refine (sl_rev_two w.heap.size g d g1 g2 c1 c2 m1 m2 _ HO.out).mono ?_
        rintro r w' ⟨⟨_, rfl⟩, ho2, hg2⟩
        have HX := Lib.hid (par_two HRT.out HN.out HP.out hg2 rfl ho2)
        have HBE := Lib.hid (show Below w.heap.size w w' from A1.grown hg2 A1.size (fun k hk => by cases hk; exact (HO.out.lt g rfl).1))
        clear ho2 hg2 HP HO
        go_wp2_with (fail)
        all_goals go_ret
        all_goals exact ⟨_, d, by simp [HN.out], HX.out, HBE.out⟩
end Go.Proofs.YtaccamlplikkfaaGreatDoor
