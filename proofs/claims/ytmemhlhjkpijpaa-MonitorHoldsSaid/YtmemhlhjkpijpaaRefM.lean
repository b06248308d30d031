/- The document's meaning of a formula, in all places; and whether it is so. The document's answer: whether a formula is so in a place. -/
import Derived.Test.YtmemhlhjkpijpaaRefK

namespace Go.Proofs.Ytmemhlhjkpijpaa
open Go.RowKit
set_option linter.unusedVariables false
set_option linter.unusedSimpArgs false
set_option maxRecDepth 100000
attribute [local go_sem] cell_set_ite Near.cell Near.frozen

theorem rl_info : (Try.prog.info? 40).map (fun i => (i.zero, i.size, i.bytes)) = some (some (.slice none 0 0), 1, 24) := by kernel_rfl
theorem Vals.kept {w w' : World} {P : Option Addr} {m : Nat} {F : Nat → Value} {r : Option Nat} (h : Vals w P m F) (hg : w.grownBy w' r) (hr : ∀ g o, P = some ⟨g, o, none⟩ → some g ≠ r) : Vals w' P m F := fun h0 => by
  obtain ⟨b, off, e, hl, hc⟩ := h h0
  refine ⟨b, off, e, Nat.lt_of_lt_of_le hl hg.size, fun i hi => ?_⟩
  rw [World.cell?_of_block (w := w) (w' := w') (a := ⟨b, off + i, none⟩) (hg.block b hl (hr b off e))]
  exact hc i hi
/-- Lists of truths, of m each, put together so far. -/
structure RlS (w0 : World) (m : Nat) (F : Nat → Nat → Bool) (k : Nat) (v : Value) (vs : List Value) (wr : World) : Prop where
  gr : GrV 40 w0 vs v wr
  len : vs.length = k
  els : ∀ i, i < k → ∃ P d, vs.getD i undef = .slice P m d ∧ Vals wr P m (fun j => .bool (F i j)) ∧ ∀ g o, P = some ⟨g, o, none⟩ → some g ≠ v.ownBlock ∧ g < wr.heap.size
namespace RlS
variable {w0 wr w3 w4 : World} {m k : Nat} {F : Nat → Nat → Bool} {v v' : Value} {vs : List Value}
theorem first {w0 : World} (m : Nat) (F : Nat → Nat → Bool) : RlS w0 m F 0 (.slice none 0 0) [] w0 := ⟨GrV.nil _ _, rfl, fun i hi => by omega⟩
theorem below (h : RlS w0 m F k v vs wr) (hb : Below wr.heap.size wr w3) : RlS w0 m F k v vs w3 :=
  ⟨h.gr.below hb, h.len, fun i hi => by
    obtain ⟨P, d, e1, e2, e3⟩ := h.els i hi
    exact ⟨P, d, e1, e2.below hb, fun g o e => ⟨(e3 g o e).1, Nat.lt_of_lt_of_le (e3 g o e).2 hb.size⟩⟩⟩
theorem next {P : Option Addr} {d : Nat} {t : TypeId} (h : RlS w0 m F k v vs w3) (hV : Vals w3 P m (fun j => .bool (F k j))) (hP : ∀ g o, P = some ⟨g, o, none⟩ → some g ≠ v.ownBlock ∧ g < w3.heap.size)
    (h1 : w4.ownsRow w0.heap.size 40 1 v' (vs.length + 1) (vs ++ [.slice P m d])) (h2 : (w3.alloc (.cells #[.slice P m d] t)).grownBy w4 v.ownBlock) (h3 : v'.ownBlock = v.ownBlock ∨ v'.ownBlock = some (w3.heap.size + 1)) :
    RlS w0 m F (k + 1) v' (vs ++ [.slice P m d]) w4 := by
  have hs : w3.heap.size ≤ w4.heap.size := by have := h2.size; simp at this; omega
  have keep : ∀ {P : Option Addr} {G : Nat → Value}, Vals w3 P m G → (∀ g o, P = some ⟨g, o, none⟩ → some g ≠ v.ownBlock ∧ g < w3.heap.size) → Vals w4 P m G ∧ ∀ g o, P = some ⟨g, o, none⟩ → some g ≠ v'.ownBlock ∧ g < w4.heap.size := fun {P G} a b =>
    ⟨(a.below (below_alloc_on (Below.refl _ _) _)).kept h2 (fun g o e => (b g o e).1), fun g o e => by
      obtain ⟨b1, b2⟩ := b g o e
      refine ⟨?_, by omega⟩
      rcases h3 with x | x
      · rw [x]; exact b1
      · rw [x]; intro he; cases he; omega⟩
  refine ⟨h.gr.next h1 h2, by simp [h.len], fun i hi => ?_⟩
  have hl := h.len
  by_cases e : i = k
  · subst e
    obtain ⟨k1, k2⟩ := keep hV hP
    refine ⟨P, d, ?_, k1, k2⟩
    rw [← hl, List.getD_eq_getElem?_getD, List.getElem?_append_right (Nat.le_refl _)]
    simp
  · obtain ⟨P', d', e1, e2, e3⟩ := h.els i (by omega)
    obtain ⟨k1, k2⟩ := keep e2 e3
    refine ⟨P', d', ?_, k1, k2⟩
    rw [List.getD_eq_getElem?_getD, List.getElem?_append_left (by omega), ← List.getD_eq_getElem?_getD]
    exact e1
theorem sls {A : Option Addr} {c : Nat} (h : RlS w0 m F k (.slice A k c) vs wr) : Sls wr A k m F := fun h0 => by
  have hl := h.len
  have ho := h.gr.own
  rw [hl] at ho
  obtain ⟨a, o, e, la, hc⟩ := Vals.of_own ho h0
  refine ⟨a, o, e, la, fun i hi => ?_⟩
  obtain ⟨P, d, e1, e2, _⟩ := h.els i hi
  have := hc i hi
  simp only [e1] at this
  exact ⟨P, d, this, e2⟩
end RlS
/-- A new list of truths; nil, if there is none. -/
def RlR (m : Nat) (f : Nat → Bool) (w : World) (r : Ending) (w' : World) : Prop := ∃ P d, r = .returned (.slice P m d) ∧ Vals w' P m (fun i => .bool (f i)) ∧ (∀ g o, P = some ⟨g, o, none⟩ → w.heap.size ≤ g ∧ g < w'.heap.size) ∧ Below w.heap.size w w'
def rbL (f : Nat → Bool) (k : Nat) : List Value := (List.range k).map (fun i => .bool (f i))
theorem rbL_next (f : Nat → Bool) (k : Nat) : rbL f (k + 1) = rbL f k ++ [.bool (f k)] := by simp [rbL, List.range_succ]
theorem rbL_len (f : Nat → Bool) (k : Nat) : (rbL f k).length = k := by simp [rbL]
theorem rbL_at (f : Nat → Bool) {i k : Nat} (h : i < k) : (rbL f k).getD i undef = .bool (f i) := by simp [rbL, List.getD, h]
set_option maxHeartbeats 8000000 in
theorem r7_all (os : Nat → Ou) (m d : Nat) (B : Option Addr) (hm : m ≤ 100000) (fu : Nat) : ∀ (A : Option Addr) (n c : Nat) (ts : Nat → Tm) (w : World), n ≤ fu → Terms w A n ts → rtB ts n = true → n ≤ c → Outs w B m os →
    Calls Try.prog 20 #[.slice A n c, .slice B m d] w (RlR m (soM os (mnF ts n)) w) := by
  induction fu with
  | zero => intro A n c ts w hf h hr hc ho; have := rt_pos hr; omega
  | succ fu ih =>
    intro A n c ts w hf h hr hc ho
    obtain ⟨e, rfl⟩ : ∃ e, n = e + 1 := ⟨n - 1, by have := rt_pos hr; omega⟩
    obtain ⟨h40, hok, _⟩ := rt_parts hr
    obtain ⟨hmy, _⟩ := hk_at ts (Nat.lt_succ_self e) hok
    have IH := Lib.hid ih
    have HP := Lib.hid (r6_parts A e c ts w h hr hc)
    obtain ⟨b, off, rfl, hbs, hcell⟩ := h.2 (by omega)
    have C0 := Lib.hid (fun w' (hb : Below w.heap.size w w') => (hb.cell (p := ⟨b, off + e * 3, none⟩) hbs).trans (hcell e (by omega)).1)
    have C1 := Lib.hid (fun w' (hb : Below w.heap.size w w') => (hb.cell (p := ⟨b, off + e * 3 + 1, none⟩) hbs).trans (hcell e (by omega)).2.1)
    have C2 := Lib.hid (fun w' (hb : Below w.heap.size w w') => (hb.cell (p := ⟨b, off + e * 3 + 2, none⟩) hbs).trans (hcell e (by omega)).2.2)
    have HO := Lib.hid (fun w' (hb : Below w.heap.size w w') => ho.below hb)
    have A0 : Below w.heap.size w w := Below.refl _ _
    have hnl := nd_le (ts e).op
    have HMY := Lib.hid hmy
    clear ih h hr hcell ho hok hmy
    go_enter Try.func20, Try.ntmps20
    go_wp2_with (fail)
    refine HP.out.mono ?_
    rintro r w1 ⟨P, pd, rfl, ⟨F, bg, ln, hV, hF, hM⟩, hb⟩
    have A1 := below_call A0 hb
    have HV := Lib.hid (fun w' (hb : Below w1.heap.size w1 w') => hV.below hb)
    have HF := Lib.hid (fun i w' (hb : Below w1.heap.size w1 w') (hi : i < ndN (ts e).op) => And.intro ((hF i hi).1.below hb) (hF i hi).2)
    have HM := Lib.hid hM
    clear hb A0 HP hV hF hM
    obtain ⟨S, hS⟩ : ∃ S : Nat → Mn, (fun i => mnF (from_ ts (bg i)) (ln i)) = S := ⟨_, rfl⟩
    have HS := Lib.hid (fun i => congrFun hS i)
    have HM2 := Lib.hid (show mnF ts (e + 1) = cmbM (ts e) S from by rw [HM.out, hS])
    clear hS HM
    go_wp2_with (fail)
    go_loopg [6, 7, 14] (ndN (ts e).op) (fun gk v y i wr => ∃ (k : Nat) (vs : List Value), k ≤ ndN (ts e).op ∧ gk = ndN (ts e).op - k ∧ i = .int .i64 k ∧ RlS w1 m (fun i => soM os (S i)) k v vs wr)
    case atStart => exact ⟨0, [], by omega, rfl, rfl, RlS.first _ _⟩
    case round =>
      obtain ⟨k, vs, hk, rfl, rfl, hg⟩ := hrel
      have B1 := hg.gr.bel
      by_cases hlt : k < ndN (ts e).op
      · obtain ⟨p, q, rfl, hps, hpc⟩ := HV.out _ B1 (by omega)
        have cF := hpc k hlt
        obtain ⟨⟨g, cg, hgf, hT, hmc⟩, hR, hln⟩ := HF.out k _ B1 hlt
        rw [hgf] at cF
        have HC := Lib.hid (IH.out (some ⟨g, 0, none⟩) (ln k) cg (from_ ts (bg k)) _ (by omega) hT hR hmc (HO.out _ (A1.trans (B1.mono A1.size))))
        have HSK := Lib.hid (HS.out k)
        have HG := Lib.hid hg
        have HL := Lib.hid hg.len
        have hl2 : vs.length ≤ 2 := by have := hg.len; omega
        clear hpc hgf hT hmc hR hln hg
        go_wp2_with (fail)
        refine HC.out.mono ?_
        rintro r w2 ⟨P2, d2, rfl, V2, hP2, hb⟩
        have G2 := Lib.hid (HG.out.below hb)
        have sz2 := (B1.trans (hb.mono B1.size)).size
        have HV2 := Lib.hid (show Vals w2 P2 m (fun j => .bool (soM os (S k) j)) from by rw [← HSK.out]; exact V2)
        have HN2 := Lib.hid (show ∀ g o, P2 = some ⟨g, o, none⟩ → some g ≠ Value.ownBlock u6 ∧ g < w2.heap.size from fun g o e => ⟨fun he => by
          have h1 := (HG.out.gr.own.lt g he.symm).2
          have h2 := (hP2 g o e).1
          omega, (hP2 g o e).2⟩)
        clear hb HG HC V2 hP2
        go_wp2_with (at_builtin; refine app_val_at rfl _ _ 56 40 _ _ rfl Try.underlying56 rl_info rfl _ rfl rfl rfl G2.out.gr.own sz2 (by omega) (by omega) ?_)
        intro v' w3 h1 h2 h3
        have G3 := Lib.hid (G2.out.next HV2.out HN2.out h1 h2 h3)
        clear h1 h2 h3 G2 HV2 HN2
        go_wp2_with (fail)
        go_roundg (ndN (ts e).op - (k + 1))
        case measure => omega
        case rel => exact ⟨k + 1, _, by omega, rfl, by go_num, G3.out⟩
      · obtain rfl : k = ndN (ts e).op := by omega
        have hform := hg.gr.form
        rw [hg.len] at hform
        obtain ⟨SA, sc, rfl, _⟩ := hform
        have A2 := A1.trans (B1.mono A1.size)
        have HSL := Lib.hid (fun w' (hb : Below wr.heap.size wr w') => hg.sls.below hb)
        have HPT := Lib.hid (fun w' (hb : Below wr.heap.size wr w') (k : Nat) (hk : k < m) => r7_part (ts e) SA B sc m d k S os w' HMY.out (hg.sls.below hb) (HO.out w' (A2.trans (hb.mono A2.size))) hk hm)
        rw [← HM2.out] at HPT
        have C0 := Lib.hid (fun w' (hb : Below wr.heap.size wr w') => C0.out w' (A2.trans (hb.mono A2.size)))
        have C1 := Lib.hid (fun w' (hb : Below wr.heap.size wr w') => C1.out w' (A2.trans (hb.mono A2.size)))
        have C2 := Lib.hid (fun w' (hb : Below wr.heap.size wr w') => C2.out w' (A2.trans (hb.mono A2.size)))
        have we : IntKind.i64.wrap (((e + 1 : Nat) : Int) - 1) = (e : Int) := by rw [IntKind.wrap_i64]; omega
        have hlw := A2.size
        have ee : (e : Int) < ((e + 1 : Nat) : Int) := by omega
        unfold Tm.val at HPT
        clear hg HV HF HS HM2 IH
        go_wp2_with (fail)
        go_loopg [8, 9, 29] m (fun gk v y i wx => ∃ k : Nat, k ≤ m ∧ gk = m - k ∧ i = .int .i64 k ∧ GrV 4 wr (rbL (soM os (mnF ts (e + 1))) k) v wx)
        case atStart => exact ⟨0, by omega, rfl, rfl, GrV.nil _ _⟩
        case round =>
          obtain ⟨k, hk, rfl, rfl, hg⟩ := hrel
          have X1 := hg.bel
          by_cases hlt2 : k < m
          · have c0 := C0.out _ X1
            have c1 := C1.out _ X1
            have c2 := C2.out _ X1
            have HC := Lib.hid (HPT.out _ X1 k hlt2)
            have HNX := Lib.hid (rbL_next (soM os (mnF ts (e + 1))) k)
            have hl2 : (rbL (soM os (mnF ts (e + 1))) k).length ≤ 100000 := by rw [rbL_len]; omega
            have HG := Lib.hid hg
            have hbw : b < (‹World› : World).heap.size ∨ True := .inr trivial
            clear hg hbw
            obtain ⟨x, hx⟩ : ∃ x, soM os (mnF ts (e + 1)) k = x := ⟨_, rfl⟩
            rw [hx] at HC HNX
            clear hx
            go_wp2_with (fail)
            refine HC.out.mono ?_
            rintro r w5 ⟨rfl, hb⟩
            have G5 := Lib.hid (HG.out.below hb)
            have sz5 := (X1.trans (hb.mono X1.size)).size
            clear hb HG HC c0 c1 c2
            go_wp2_with (at_builtin; refine app_val_at rfl _ _ 40 4 _ _ rfl Try.underlying40 truth_info rfl (.bool x) rfl rfl rfl G5.out.own sz5 (by omega) (by omega) ?_)
            intro v' w6 h1 h2 h3
            have G6 := Lib.hid (G5.out.next h1 h2)
            clear h1 h2 h3 G5
            go_wp2_with (fail)
            go_roundg (m - (k + 1))
            case measure => omega
            case rel => exact ⟨k + 1, by omega, by omega, by go_num, by rw [HNX.out]; exact G6.out⟩
          · obtain rfl : k = m := by omega
            have hform := hg.form
            rw [rbL_len] at hform
            obtain ⟨P3, d3, rfl, _⟩ := hform
            have ho := hg.own
            rw [rbL_len] at ho
            have HX := Lib.hid (Vals.congr (Vals.of_own ho) (fun i hi => rbL_at _ hi))
            have HY := Lib.hid (show ∀ g o, P3 = some ⟨g, o, none⟩ → w.heap.size ≤ g ∧ g < (_ : World).heap.size from fun g o e => by
              have := ho.lt g (by rw [e]; rfl)
              exact ⟨by omega, this.2⟩)
            have A3 := A2.trans (X1.mono A2.size)
            clear hg ho HPT HSL C0 C1 C2
            go_wp2_with (fail)
            all_goals go_ret
            all_goals exact ⟨P3, d3, rfl, HX.out, HY.out, A3⟩
end Go.Proofs.Ytmemhlhjkpijpaa

namespace Go.Proofs.Ytmemhlhjkpijpaa
open Go.RowKit
set_option linter.unusedVariables false
set_option linter.unusedSimpArgs false
set_option maxRecDepth 100000
attribute [local go_sem] cell_set_ite Near.cell Near.frozen

set_option maxHeartbeats 2000000 in
theorem r7_holds_in (A B : Option Addr) (n c m d k : Nat) (ts : Nat → Tm) (os : Nat → Ou) (w : World) (h : Terms w A n ts) (hc : n ≤ c) (ho : Outs w B m os) (hm : m ≤ 100000) (hk : k < m) (hr : rtB ts n = true) :
    Calls Try.prog 12 #[.slice A n c, .slice B m d, .int .i64 (k : Int)] w fun e w' => e = .returned (.bool (soM os (mnF ts n) k)) ∧ Below w.heap.size w w' := by
  have A0 : Below w.heap.size w w := Below.refl _ _
  have HR := Lib.hid (fun w' (hb : Below w.heap.size w w') => r6_right A n c ts w' (h.below hb))
  have HA := Lib.hid (fun w' (hb : Below w.heap.size w w') => r7_all os m d B hm n A n c ts w' (Nat.le_refl _) (h.below hb) hr hc (ho.below hb))
  rw [hr] at HR
  have k1 : (k : Int) < (m : Int) := by omega
  have k6 : decide ((m : Int) ≤ (k : Int)) = false := decide_eq_false (by omega)
  obtain ⟨f, hf⟩ : ∃ f, soM os (mnF ts n) = f := ⟨_, rfl⟩
  rw [hf] at HA
  have HF := Lib.hid hf
  clear h ho hr hf
  go_enter Try.func12, Try.ntmps12
  go_wp2_with (fail)
  refine (HR.out _ A0).mono ?_
  rintro e w1 ⟨rfl, hb⟩
  have A1 := below_call A0 hb
  clear hb A0 HR
  go_wp2_with (fail)
  refine (HA.out _ A1).mono ?_
  rintro e w2 ⟨P, pd, rfl, hV, hP, hb⟩
  have A2 := below_call A1 hb
  obtain ⟨q, qo, rfl, lq, hq⟩ := hV (by omega)
  have q0 : w2.cell? ⟨q, qo + k, none⟩ = some (.bool (f k)) := hq k hk
  clear hb A1 HA hV hP hq
  go_wp2_with (fail)
  all_goals go_ret
  all_goals exact ⟨by rw [HF.out]; rfl, A2⟩
theorem r7_holds_no (A B : Option Addr) (n c m d : Nat) (at_ : Int) (ts : Nat → Tm) (w : World) (h : Terms w A n ts) (hr : rtB ts n = false) :
    Calls Try.prog 12 #[.slice A n c, .slice B m d, .int .i64 at_] w fun e w' => e = .returned (.bool false) ∧ Below w.heap.size w w' := by
  have HR := Lib.hid (r6_right A n c ts w h)
  rw [hr] at HR
  clear h hr
  go_enter Try.func12, Try.ntmps12
  go_wp2_with (fail)
  refine HR.out.mono ?_
  rintro e w1 ⟨rfl, hb⟩
  go_wp2_with (fail)
  all_goals go_ret
  all_goals exact ⟨rfl, hb⟩
theorem r7_holds_out (A B : Option Addr) (n c m d : Nat) (at_ : Int) (ts : Nat → Tm) (w : World) (h : Terms w A n ts) (hat : at_ < 0 ∨ (m : Int) ≤ at_) :
    Calls Try.prog 12 #[.slice A n c, .slice B m d, .int .i64 at_] w fun e w' => e = .returned (.bool false) ∧ Below w.heap.size w w' := by
  cases hr : rtB ts n
  · exact r7_holds_no A B n c m d at_ ts w h hr
  have HR := Lib.hid (r6_right A n c ts w h)
  rw [hr] at HR
  clear h hr
  by_cases h0 : at_ < 0
  · have t0 := decide_eq_true h0
    clear hat h0
    go_enter Try.func12, Try.ntmps12
    go_wp2_with (fail)
    refine HR.out.mono ?_
    rintro e w1 ⟨rfl, hb⟩
    go_wp2_with (fail)
    all_goals go_ret
    all_goals exact ⟨rfl, hb⟩
  · have t0 := decide_eq_false h0
    have t1 : decide ((m : Int) ≤ at_) = true := decide_eq_true (by omega)
    clear hat h0
    go_enter Try.func12, Try.ntmps12
    go_wp2_with (fail)
    refine HR.out.mono ?_
    rintro e w1 ⟨rfl, hb⟩
    go_wp2_with (fail)
    all_goals go_ret
    all_goals exact ⟨rfl, hb⟩
end Go.Proofs.Ytmemhlhjkpijpaa
