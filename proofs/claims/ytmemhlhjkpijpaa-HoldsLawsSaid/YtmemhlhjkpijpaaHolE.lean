/- Contract of holds.meant. -/
import Derived.Test.YtmemhlhjkpijpaaHolD
namespace Go.Proofs.Ytmemhlhjkpijpaa
open Go.RowKit
set_option linter.unusedVariables false
set_option linter.unusedSimpArgs false
set_option maxRecDepth 100000
attribute [local go_sem] cell_set_ite Near.cell Near.frozen

theorem mean_info : (Try.prog.info? 44).map (fun i => (i.zero, i.size, i.bytes)) = some (some .nilIface, 1, 16) := by kernel_rfl
def mvL (S : Nat → Mn) (k : Nat) : List Value := (List.range k).map (fun i => (S i).val)
theorem mvL_next (S : Nat → Mn) (k : Nat) : mvL S (k + 1) = mvL S k ++ [(S k).val] := by simp [mvL, List.range_succ]
theorem mvL_len (S : Nat → Mn) (k : Nat) : (mvL S k).length = k := by simp [mvL]
theorem mvL_at (S : Nat → Mn) {i k : Nat} (h : i < k) : (mvL S k).getD i undef = (S i).val := by simp [mvL, List.getD, h]
set_option maxHeartbeats 4000000 in
theorem ho_meant (f : Nat) : ∀ (A : Option Addr) (n c : Nat) (ts : Nat → Tm) (w : World), n ≤ f → Terms w A n ts → rtB ts n = true → n ≤ c →
    Calls Try.prog 18 #[.slice A n c] w fun e w' => e = .returned (mnF ts n).val ∧ Below w.heap.size w w' := by
  induction f with
  | zero => intro A n c ts w hf h hr hc; have := rt_pos hr; omega
  | succ f ih =>
    intro A n c ts w hf h hr hc
    obtain ⟨e, rfl⟩ : ∃ e, n = e + 1 := ⟨n - 1, by have := rt_pos hr; omega⟩
    obtain ⟨h40, _, _⟩ := rt_parts hr
    have IH := Lib.hid ih
    have HP := Lib.hid (fo_parts A e c ts w h hr hc)
    obtain ⟨b, off, rfl, hbs, hcell⟩ := h.2 (by omega)
    have C0 := Lib.hid (fun w' (hb : Below w.heap.size w w') => (hb.cell (p := ⟨b, off + e * 3, none⟩) hbs).trans (hcell e (by omega)).1)
    have C1 := Lib.hid (fun w' (hb : Below w.heap.size w w') => (hb.cell (p := ⟨b, off + e * 3 + 1, none⟩) hbs).trans (hcell e (by omega)).2.1)
    have C2 := Lib.hid (fun w' (hb : Below w.heap.size w w') => (hb.cell (p := ⟨b, off + e * 3 + 2, none⟩) hbs).trans (hcell e (by omega)).2.2)
    have A0 : Below w.heap.size w w := Below.refl _ _
    have hnl := nd_le (ts e).op
    clear ih h hr hcell
    go_enter Try.func18, Try.ntmps18
    go_wp2_with (fail)
    refine HP.out.mono ?_
    rintro r w1 ⟨P, d, rfl, ⟨F, bg, ln, hV, hF, hM⟩, hb⟩
    have A1 := below_call A0 hb
    have HV := Lib.hid (fun w' (hb : Below w1.heap.size w1 w') => hV.below hb)
    have HF := Lib.hid (fun i w' (hb : Below w1.heap.size w1 w') (hi : i < ndN (ts e).op) => And.intro ((hF i hi).1.below hb) (hF i hi).2)
    have HM := Lib.hid hM
    clear hb A0 HP hV hF hM
    obtain ⟨S, hS⟩ : ∃ S : Nat → Mn, (fun i => mnF (from_ ts (bg i)) (ln i)) = S := ⟨_, rfl⟩
    have HS := Lib.hid (fun i => congrFun hS i)
    have HM2 := Lib.hid (show mnF ts (e + 1) = cmbM (ts e) S from by rw [HM.out, hS])
    clear hS HM
    go_wp2_with (fail)
    go_loopg [3, 5, 10] (ndN (ts e).op) (fun gk v y i wr => ∃ k : Nat, k ≤ ndN (ts e).op ∧ gk = ndN (ts e).op - k ∧ i = .int .i64 k ∧ GrV 44 w1 (mvL S k) v wr)
    case atStart => exact ⟨0, by omega, rfl, rfl, GrV.nil _ _⟩
    case round =>
      obtain ⟨k, hk, rfl, rfl, hg⟩ := hrel
      have B1 := hg.bel
      by_cases hlt : k < ndN (ts e).op
      · obtain ⟨p, q, rfl, hps, hpc⟩ := HV.out _ B1 (by omega)
        have cF := hpc k hlt
        obtain ⟨⟨g, cg, hgf, hT, hmc⟩, hR, hln⟩ := HF.out k _ B1 hlt
        rw [hgf] at cF
        have HC := Lib.hid (IH.out (some ⟨g, 0, none⟩) (ln k) cg (from_ ts (bg k)) _ (by omega) hT hR hmc)
        have HSK := Lib.hid (HS.out k)
        have HG := Lib.hid hg
        have HNX := Lib.hid (mvL_next S k)
        have HL := Lib.hid (mvL_len S k)
        have hl := mvL_len S k
        have hl2 : (mvL S k).length ≤ 2 := by omega
        obtain ⟨T1, x1, hf1⟩ := (S k).form
        clear hpc hgf hT hmc hR hln hg hl
        go_wp2_with (fail)
        refine HC.out.mono ?_
        rintro r w2 ⟨rfl, hb⟩
        have G2 := Lib.hid (HG.out.below hb)
        have sz2 := (B1.trans (hb.mono B1.size)).size
        have e2 : (mnF (from_ ts (bg k)) (ln k)).val = (S k).val := by rw [← HSK.out]
        rw [e2, hf1]
        rw [hf1] at HNX
        clear hb HG HC e2 hf1
        go_wp2_with (at_builtin; refine app_val_at rfl _ _ 57 44 _ _ rfl Try.underlying57 mean_info rfl _ rfl rfl rfl G2.out.own sz2 (by omega) (by omega) ?_)
        intro v' w3 h1 h2 h3
        have G3 := Lib.hid (G2.out.next h1 h2)
        clear h1 h2 h3 G2
        go_wp2_with (fail)
        go_roundg (ndN (ts e).op - (k + 1))
        case measure => omega
        case rel => exact ⟨k + 1, by omega, rfl, by go_num, by rw [HNX.out]; exact G3.out⟩
      · obtain rfl : k = ndN (ts e).op := by omega
        have A2 := A1.trans (B1.mono A1.size)
        have c0 := C0.out _ A2
        have c1 := C1.out _ A2
        have c2 := C2.out _ A2
        have we : IntKind.i64.wrap (((e + 1 : Nat) : Int) - 1) = (e : Int) := by rw [IntKind.wrap_i64]; omega
        have HU := Lib.hid (ho_unary (ts e))
        have HBI := Lib.hid (ho_binary (ts e).op)
        have HAL := Lib.hid (ho_alone (ts e))
        have hlw := A2.size
        have hbw : b < wr.heap.size := by omega
        unfold Tm.val at HU HAL
        have hlen := mvL_len S (ndN (ts e).op)
        rcases nd_ways (ts e).op with hn | hn | hn
        · have HV2 := Lib.hid (show (mnF ts (e + 1)).val = (aloM (ts e)).val by rw [HM2.out]; unfold cmbM; rw [if_pos hn])
          obtain ⟨P1, d1, rfl, _⟩ := hg.form
          rw [hn] at hlen
          rw [hn]
          rw [hlen]
          have A3 := below_alloc_on A2 (.cells #[.int .i64 (ts e).op, .int .i64 (ts e).a, .int .i64 (ts e).b] 36)
          generalize (ts e).op = op at *
          generalize (ts e).a = ta at *
          generalize (ts e).b = tb at *
          generalize (aloM (ts e)).val = av at *
          clear hn hlt hk hnl hg HM2 HV HF HS C0 C1 C2 HU HBI IH hlen
          go_wp2_with (fail)
          refine (HAL.out _).mono ?_
          rintro r w' ⟨rfl, hb⟩
          have A4 := below_call A3 hb
          clear hb A3
          go_wp2_with (fail)
          all_goals go_ret
          all_goals exact ⟨by rw [HV2.out]; rfl, A4⟩
        · have HV2 := Lib.hid (show (mnF ts (e + 1)).val = (unaM (ts e) (S 0)).val by rw [HM2.out]; unfold cmbM; rw [if_neg (by omega), if_pos hn])
          obtain ⟨P1, d1, rfl, _⟩ := hg.form
          rw [hn] at hlen
          rw [hn]
          rw [hlen]
          have A3 := below_alloc_on A2 (.cells #[.int .i64 (ts e).op, .int .i64 (ts e).a, .int .i64 (ts e).b] 36)
          obtain ⟨g, o1, rfl, hgl, hgc⟩ : ∃ g o1, P1 = some ⟨g, o1, none⟩ ∧ g < wr.heap.size ∧ wr.cell? ⟨g, o1, none⟩ = some (S 0).val := by
            have hv := Vals.of_own (A := P1) (c := d1) (by have := hg.own; exact this)
            rw [hn, hlen] at hv
            obtain ⟨g, o1, e1, e2, e3⟩ := hv (by omega)
            refine ⟨g, o1, e1, e2, ?_⟩
            have := e3 0 (by omega)
            rw [Nat.add_zero] at this
            rw [this]
            show some ((mvL S 1).getD 0 undef) = _
            rw [mvL_at S (by omega)]
          obtain ⟨T1, x1, hf1⟩ := (S 0).form
          have HUC := Lib.hid (fun w => HU.out (S 0) w)
          rw [hf1] at hgc HUC
          generalize (unaM (ts e) (S 0)).val = av at *
          generalize (ts e).op = op at *
          generalize (ts e).a = ta at *
          generalize (ts e).b = tb at *
          clear hn hlt hk hnl hg HM2 HV HF HS C0 C1 C2 HU HBI IH hlen HAL hf1
          go_wp2_with (fail)
          refine wp_region_calm (by kernel_rfl) (by kernel_rfl) ?_
          repeat (go_big_quiet_step (((go_at_call 41; exact calm_of _ (HUC.out _)))))
          refine wpQuiet_nil ?_
          intro _ hw'
          obtain ⟨u, rfl⟩ := hw'
          have A4 := below_call A3 u.below
          go_wp2_with (fail)
          all_goals go_ret
          all_goals exact ⟨by rw [HV2.out]; rfl, A4⟩
        · have HV2 := Lib.hid (show (mnF ts (e + 1)).val = (binM (ts e).op (S 0) (S 1)).val by rw [HM2.out]; unfold cmbM; rw [if_neg (by omega), if_neg (by omega)])
          obtain ⟨P1, d1, rfl, _⟩ := hg.form
          rw [hn] at hlen
          rw [hn]
          rw [hlen]
          have A3 := below_alloc_on A2 (.cells #[.int .i64 (ts e).op, .int .i64 (ts e).a, .int .i64 (ts e).b] 36)
          obtain ⟨g, o1, rfl, hgl, hgc, hgd⟩ : ∃ g o1, P1 = some ⟨g, o1, none⟩ ∧ g < wr.heap.size ∧ wr.cell? ⟨g, o1, none⟩ = some (S 0).val ∧ wr.cell? ⟨g, o1 + 1, none⟩ = some (S 1).val := by
            have hv := Vals.of_own (A := P1) (c := d1) (by have := hg.own; exact this)
            rw [hn, hlen] at hv
            obtain ⟨g, o1, e1, e2, e3⟩ := hv (by omega)
            refine ⟨g, o1, e1, e2, ?_, ?_⟩
            · have := e3 0 (by omega)
              rw [Nat.add_zero] at this
              rw [this]
              show some ((mvL S 2).getD 0 undef) = _
              rw [mvL_at S (by omega)]
            · rw [e3 1 (by omega)]
              show some ((mvL S 2).getD 1 undef) = _
              rw [mvL_at S (by omega)]
          obtain ⟨T1, x1, hf1⟩ := (S 0).form
          obtain ⟨T2, x2, hf2⟩ := (S 1).form
          have HUC := Lib.hid (fun w => HBI.out (S 0) (S 1) w)
          rw [hf1] at hgc HUC
          rw [hf2] at hgd HUC
          generalize (binM (ts e).op (S 0) (S 1)).val = av at *
          generalize (ts e).op = op at *
          generalize (ts e).a = ta at *
          generalize (ts e).b = tb at *
          clear hn hlt hk hnl hg HM2 HV HF HS C0 C1 C2 HU HBI IH hlen HAL hf1 hf2
          go_wp2_with (fail)
          refine wp_region_calm (by kernel_rfl) (by kernel_rfl) ?_
          repeat (go_big_quiet_step (((go_at_call 42; exact calm_of _ (HUC.out _)))))
          refine wpQuiet_nil ?_
          intro _ hw'
          obtain ⟨u, rfl⟩ := hw'
          have A4 := below_call A3 u.below
          go_wp2_with (fail)
          all_goals go_ret
          all_goals exact ⟨by rw [HV2.out]; rfl, A4⟩
end Go.Proofs.Ytmemhlhjkpijpaa
