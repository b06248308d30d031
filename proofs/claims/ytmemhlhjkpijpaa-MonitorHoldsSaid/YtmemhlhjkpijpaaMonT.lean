/- Contracts of package monitor: a step. -/
import Derived.Test.YtmemhlhjkpijpaaMonS
import Derived.Test.YtmemhlhjkpijpaaMonO
import Derived.BigRegion
import Derived.Deep.RegionLaw
namespace Go.Proofs.Ytmemhlhjkpijpaa
open Go.RowKit
set_option linter.unusedVariables false
set_option linter.unusedSimpArgs false
set_option maxRecDepth 100000
attribute [local go_sem] cell_set_ite Near.cell Near.frozen

set_option maxHeartbeats 8000000 in
theorem mo_step (A : Option Addr) (n c : Nat) (ts : Nat → Tm) (K : Option Addr) (d : Nat) (ks : List Int) (o : Ou) (w : World) (h : Terms w A n ts) (hk : Ints w K n ks) (hr : rtB ts n = true) :
    Calls Try.prog 28 #[.slice A n c, .slice K n d, .agg o.cells] w fun e w' => ∃ g, e = .returned (.tuple #[.slice (some ⟨g, 0, none⟩) n n, .bool (skF ts ks o n 0)]) ∧ Col w' g n (fun i => .int .i64 (nxV ts ks o i)) ∧ w.heap.size ≤ g ∧ Below w.heap.size w w' := by
  have HI := Lib.hid h
  have HK := Lib.hid hk
  have hr1 : n ≤ 40 ∧ okB ts n = true ∧ rdN ts n = 1 := by
    unfold rtB at hr
    simpa using hr
  obtain ⟨hn40, hok, hrd⟩ := hr1
  have HOK := Lib.hid (fun k (h : k < n) => ok_at ts h hok)
  have HRD := Lib.hid hrd
  have n1 : 1 ≤ n := by have := rdN_le ts n; omega
  obtain ⟨i0, hi0, hz0, hz1, hz2⟩ := info_parts int_info
  obtain ⟨j0, hj0, hy0, hy1, hy2⟩ := info_parts truth_info
  have hmk := fun w => run_make (P := Try.prog) w 49 3 i0 _ Try.underlying49 hi0 hz0 .i64 .i64 n n (by omega) (by omega) (by rw [hz2]; omega) (by omega)
  have hmt := fun w => run_make (P := Try.prog) w 40 4 j0 _ Try.underlying40 hj0 hy0 .i64 .i64 0 n (by omega) (by omega) (by rw [hy2]; omega) (by omega)
  simp only [hz1, hy1, Int.toNat_natCast, Nat.mul_one, show (Value.int .i64 0).cells = #[.int .i64 0] from rfl, show (Value.bool false).cells = #[.bool false] from rfl] at hmk hmt
  have A0 : Below w.heap.size w w := Below.refl _ _
  clear h hk hr hok hrd hz0 hz1 hz2 hi0 hy0 hy1 hy2 hj0
  go_enter Try.func28, Try.ntmps28
  go_wp2
  refine at_world (fun W => Below w.heap.size w W ∧ Box W w.heap.size o.cells ∧ Col W (w.heap.size + 1) n (fun _ => .int .i64 0) ∧ Col W (w.heap.size + 1 + 1) n (fun _ => .bool false)) ⟨by (repeat (first | (with_reducible exact Below.refl _ _) | (with_reducible assumption) | (with_reducible refine Near.up _ ?_) | (with_reducible refine Below.drew ?_) | (with_reducible refine below_alloc_on ?_ _) | (with_reducible refine below_set_on ?_ (by first | (simp; done) | (simp; omega) | omega) _))), ((box_new _ _ _).alloc _).alloc _, (col_at (by simp)).alloc _, col_at (by simp)⟩ ?_
  rintro w1 ⟨A1, BO, CN, CF⟩
  clear hmk hmt A0
  obtain ⟨ob, hob⟩ : ∃ ob, w.heap.size = ob := ⟨_, rfl⟩
  obtain ⟨nb, hnb⟩ : ∃ nb, w.heap.size + 1 = nb := ⟨_, rfl⟩
  obtain ⟨fb, hfb⟩ : ∃ fb, w.heap.size + 1 + 1 = fb := ⟨_, rfl⟩
  have wn : w.heap.size ≤ nb := by omega
  have wf : w.heap.size ≤ fb := by omega
  have nf : nb ≠ fb := by omega
  have fn : fb ≠ nb := by omega
  have of_ : fb ≠ ob := by omega
  have on_ : nb ≠ ob := by omega
  rw [hfb] at CF
  rw [hnb] at CN
  rw [hob] at BO
  simp only [hfb]
  simp only [hnb]
  simp only [hob]
  clear hfb hnb hob
  go_loopg [9, 21] n (fun gk x i wr => ∃ k : Nat, k ≤ n ∧ gk = n - k ∧ i = .int .i64 k ∧ x = .slice (some ⟨fb, 0, none⟩) (rdN ts k) n ∧ Below w.heap.size w wr ∧ Box wr ob o.cells ∧ Col wr nb n (fun i => if i < k then .int .i64 (nxV ts ks o i) else .int .i64 0) ∧ Col wr fb n (fun i => .bool (skF ts ks o k i)))
  case atStart => exact ⟨0, by omega, rfl, rfl, rfl, A1, BO, CN.congr (fun i _ => by rw [if_neg (by omega)]), CF⟩
  case round =>
    clear A1 BO CN CF
    obtain ⟨k, hkn, rfl, rfl, rfl, A1, BO, CN, CF⟩ := hrel
    by_cases hlt : k < n
    · obtain ⟨hmy, hnd⟩ := HOK.out k hlt
      obtain ⟨b, off, rfl, hbs, hcell⟩ := HI.out.2 (by omega)
      have c0 := (A1.cell (p := ⟨b, off + k * 3, none⟩) hbs).trans (hcell k hlt).1
      have c1 := (A1.cell (p := ⟨b, off + k * 3 + 1, none⟩) hbs).trans (hcell k hlt).2.1
      have c2 := (A1.cell (p := ⟨b, off + k * 3 + 2, none⟩) hbs).trans (hcell k hlt).2.2
      obtain ⟨kb, ko, rfl, hks, hkc0⟩ := HK.out.2 (by omega)
      have hkc := hkc0 k hlt
      clear hkc0
      have hrl := rdN_le ts k
      have hS : skF ts ks o (k + 1) = if ndN (ts k).op = 0 then upF (skF ts ks o k) (rdN ts k) (alB (ts k) o) else if ndN (ts k).op = 1 then upF (skF ts ks o k) (rdN ts k - 1) (unB (ts k) (skF ts ks o k (rdN ts k - 1)) (ks.getD k 0)) else upF (skF ts ks o k) (rdN ts k - 2) (biB (ts k).op (skF ts ks o k (rdN ts k - 2)) (skF ts ks o k (rdN ts k - 1)) (ks.getD k 0)) := rfl
      have hV : nxV ts ks o k = if ndN (ts k).op = 0 then 0 else if ndN (ts k).op = 1 then unV (ts k) (skF ts ks o k (rdN ts k - 1)) (ks.getD k 0) else biV (ts k).op (skF ts ks o k (rdN ts k - 2)) (skF ts ks o k (rdN ts k - 1)) (ks.getD k 0) := rfl
      have hN : rdN ts (k + 1) = rdN ts k + 1 - ndN (ts k).op := rfl
      have H0 := Lib.hid (fun w => mo_alone (ts k) o w)
      have H1 := Lib.hid (fun s w => mo_unary (ts k) s (ks.getD k 0) w)
      have H2 := Lib.hid (fun a b w => mo_binary (ts k).op a b (ks.getD k 0) w)
      have hways := my_ways hmy
      unfold Tm.val at H0 H1
      generalize ks.getD k 0 = kk at *
      generalize hF : skF ts ks o k = F at *
      clear hF hcell hmy
      have lw := A1.size
      go_upto_region 7 with (fail)
      have A2 := below_alloc_on A1 (.cells #[.int .i64 (ts k).op, .int .i64 (ts k).a, .int .i64 (ts k).b] 36)
      refine at_world (fun W => Below w.heap.size w W ∧ Box W ob o.cells ∧ Col W nb n (fun i => if i < k then .int .i64 (nxV ts ks o i) else .int .i64 0) ∧ Col W fb n (fun i => .bool (F i)) ∧ Box W wr.heap.size #[.int .i64 (ts k).op, .int .i64 (ts k).a, .int .i64 (ts k).b]) ⟨A2, BO.alloc _, CN.alloc _, CF.alloc _, box_new _ _ _⟩ ?_
      obtain ⟨xb, hxb⟩ : ∃ xb, wr.heap.size = xb := ⟨_, rfl⟩
      simp only [hxb]
      clear c0 c1 c2 A1 A2 BO CN CF hxb
      rintro w2 ⟨A2, BO, CN, CF, BX⟩
      have k0 := (A2.cell (p := ⟨kb, ko + k, none⟩) hks).trans hkc
      have lk : kb < w2.heap.size := Nat.lt_of_lt_of_le hks A2.size
      have lN := CN.lt
      have lF := CF.lt
      obtain ⟨lX, cX, fX⟩ := id BX
      obtain ⟨x0, x1, x2, _, _⟩ := BX.three
      obtain ⟨lO, cO, fO⟩ := id BO
      have HN := Lib.hid CN
      have HFF := Lib.hid CF
      clear CN CF hkc
      generalize (ts k).a = ta at *
      generalize (ts k).b = tb at *
      rcases hways with ⟨e0, hw⟩ | ⟨e0, y1, y2, hw⟩ | ⟨e0, y1, y2, y3, y6, y7⟩
      · rw [e0] at hN
        rw [if_pos e0] at hS hV
        have HS := Lib.hid hS
        have HV := Lib.hid hV
        have HNN := Lib.hid (hN.trans (Nat.sub_zero _))
        clear hS hV hN e0 hnd H1 H2
        generalize (ts k).op = op at *
        generalize alB (ts k) o = v at *
        generalize rdN ts k = m at *
        have hm : m < n := by omega
        unfold Ou.cells at H0 cO BO
        rcases hw with y1 | ⟨y1, y2⟩
        all_goals
          go_wp2_with (fail)
          refine (H0.out _).mono ?_
          rintro e w3 ⟨rfl, hb⟩
          have A3 := below_call A2 hb
          have BO3 := BO.below hb
          have CN3 := Lib.hid (HN.out.below hb)
          have CF3 := Lib.hid (HFF.out.below hb)
          have lF3 := (HFF.out.below hb).lt
          clear hb A2 BO k0 lk lN lF lX cX fX x0 x1 x2 lO cO fO HN HFF
          go_wp2_with (at_builtin; refine app_room rfl _ _ rfl v rfl rfl CF3.out hm (by omega) ?_)
          have CF4 := Lib.hid (((CF3.out.set hm (.bool v)).alloc (.cells #[.bool v] 4)).congr (G := fun i => .bool (skF ts ks o (k + 1) i)) (fun i _ => by
            rw [HS.out]; unfold upF
            by_cases e : i = m
            · rw [if_pos e, if_pos e]
            · rw [if_neg e, if_neg e]))
          have CN4 := Lib.hid (((CN3.out.far (p := ⟨fb, m, none⟩) fn (.bool v)).alloc (.cells #[.bool v] 4)).congr (G := fun i => if i < k + 1 then .int .i64 (nxV ts ks o i) else .int .i64 0) (fun i _ => by
            by_cases e : i < k
            · rw [if_pos e, if_pos (by omega)]
            · rw [if_neg e]
              by_cases e2 : i = k
              · subst e2; rw [if_pos (by omega), HV.out]
              · rw [if_neg (by omega)]))
          have BO4 := Lib.hid ((BO3.far (p := ⟨fb, m, none⟩) of_ (.bool v)).alloc (.cells #[.bool v] 4))
          have A4 := Lib.hid (below_alloc_on (below_set_on A3 (p := ⟨fb, m, none⟩) wf (.bool v)) (.cells #[.bool v] 4))
          clear CF3 CN3 BO3 A3
          go_wp2
          go_roundg (n - (k + 1))
          case measure => omega
          case rel => exact ⟨k + 1, by omega, by omega, by go_num, by rw [HNN.out], A4.out, BO4.out, CN4.out, CF4.out⟩
      · obtain ⟨q, hq⟩ : ∃ q, rdN ts k = q + 1 := ⟨rdN ts k - 1, by omega⟩
        rw [hq, e0] at hN
        rw [if_neg (by omega), if_pos e0, hq, Nat.add_sub_cancel] at hS hV
        have HS := Lib.hid hS
        have HV := Lib.hid hV
        have HNN := Lib.hid (hN.trans (show q + 1 + 1 - 1 = q + 1 by omega))
        have hqn : q < n := by omega
        have cF := (HFF.out).cell q hqn
        have cN := (HN.out).cell k hlt
        rw [if_neg (by omega)] at cN
        have H1S := Lib.hid (fun w => H1.out (F q) w)
        rw [hq]
        clear hS hV hN e0 hnd H0 H2 H1 hq
        generalize hop : (ts k).op = op at *
        generalize unB (ts k) (F q) kk = v at *
        generalize unV (ts k) (F q) kk = z at *
        generalize F q = s at *
        clear hop
        have tc : ((q + 1 : Nat) : Int) = (q : Int) + 1 := rfl
        have lt1 : (q : Int) < (q : Int) + 1 := by omega
        have kn1 : (k : Int) < (n : Int) := by omega
        have wq : IntKind.i64.wrap ((q : Int) + 1 - 1) = (q : Int) := by rw [IntKind.wrap_i64]; omega
        rw [tc]
        rcases hw with y3 | ⟨y3, y6⟩ | ⟨y3, y6, y7⟩
        all_goals
          go_wp2_with (fail)
          first
            | go_region_law ((go_simp; go_at_call 50; refine (H1S.out _).mono ?_; rintro e w3 ⟨rfl, hb⟩; (have A3 := below_call (Below.drew A2) hb); (have BO3 := BO.drew.below hb); (have CN3 := HN.out.drew.below hb); (have CF3 := HFF.out.drew.below hb); (have d0 : w3.cell? ⟨fb, q, none⟩ = some (.bool s) := (hb.cell (p := ⟨fb, q, none⟩) lF).trans cF); (have d1 : w3.cell? ⟨nb, k, none⟩ = some (.int .i64 0) := (hb.cell (p := ⟨nb, k, none⟩) lN).trans cN); (have fF3 := CF3.frz); (have fN3 := CN3.frz); (have lF3 := CF3.lt); (have lN3 := CN3.lt)))
            | fail
          all_goals
            have CF4 := Lib.hid (((CF3.set hqn (.bool v)).far (p := ⟨nb, k, none⟩) nf (.int .i64 z)).congr (G := fun i => .bool (skF ts ks o (k + 1) i)) (fun i _ => by
              rw [HS.out]; unfold upF
              by_cases e : i = q
              · rw [if_pos e, if_pos e]
              · rw [if_neg e, if_neg e]))
            have CN4 := Lib.hid (((CN3.far (p := ⟨fb, q, none⟩) fn (.bool v)).set hlt (.int .i64 z)).congr (G := fun i => if i < k + 1 then .int .i64 (nxV ts ks o i) else .int .i64 0) (fun i _ => by
              by_cases e2 : i = k
              · subst e2; rw [if_pos rfl, if_pos (by omega), HV.out]
              · rw [if_neg e2]
                by_cases e : i < k
                · rw [if_pos e, if_pos (by omega)]
                · rw [if_neg e, if_neg (by omega)]))
            have BO4 := Lib.hid ((BO3.far (p := ⟨fb, q, none⟩) of_ (.bool v)).far (p := ⟨nb, k, none⟩) on_ (.int .i64 z))
            have A4 := Lib.hid (below_set_on (below_set_on A3 (p := ⟨fb, q, none⟩) wf (.bool v)) (p := ⟨nb, k, none⟩) wn (.int .i64 z))
            clear A2 BO k0 lk lN lF lX cX fX x0 x1 x2 lO cO fO HN HFF A3 BO3 CN3 CF3 cF cN d0 d1 fF3 fN3 lF3 lN3 hb 
            go_wp2
            go_roundg (n - (k + 1))
            case measure => omega
            case rel => exact ⟨k + 1, by omega, by omega, by go_num, by rw [HNN.out], A4.out, BO4.out, CN4.out, CF4.out⟩
      · obtain ⟨q, hq⟩ : ∃ q, rdN ts k = q + 1 + 1 := ⟨rdN ts k - 2, by omega⟩
        rw [hq, e0] at hN
        rw [if_neg (by omega), if_neg (by omega), hq, show q + 1 + 1 - 2 = q by omega, show q + 1 + 1 - 1 = q + 1 by omega] at hS hV
        have HS := Lib.hid hS
        have HV := Lib.hid hV
        have HNN := Lib.hid (hN.trans (show q + 1 + 1 + 1 - 2 = q + 1 by omega))
        have hqn : q < n := by omega
        have cF := (HFF.out).cell q hqn
        have cF1 := (HFF.out).cell (q + 1) (by omega)
        have cN := (HN.out).cell k hlt
        rw [if_neg (by omega)] at cN
        have H2S := Lib.hid (fun w => H2.out (F q) (F (q + 1)) w)
        rw [hq]
        clear hS hV hN e0 hnd H0 H1 H2 hq
        generalize hop : (ts k).op = op at *
        generalize biB op (F q) (F (q + 1)) kk = v at *
        generalize biV op (F q) (F (q + 1)) kk = z at *
        generalize F q = s at *
        generalize F (q + 1) = s1 at *
        clear hop
        have tc : ((q + 1 + 1 : Nat) : Int) = (q : Int) + 1 + 1 := rfl
        have lt1 : (q : Int) < (q : Int) + 1 + 1 := by omega
        have lt2 : (q : Int) + 1 < (q : Int) + 1 + 1 := by omega
        have lt3 : (0 : Int) ≤ (q : Int) + 1 := by omega
        have wq0 : IntKind.i64.wrap (q : Int) = (q : Int) := by rw [IntKind.wrap_i64]; omega
        have kn1 : (k : Int) < (n : Int) := by omega
        have wq : IntKind.i64.wrap ((q : Int) + 1) = (q : Int) + 1 := by rw [IntKind.wrap_i64]; omega
        have wq1 : IntKind.i64.wrap ((q : Int) + 1 - 1) = (q : Int) := by rw [IntKind.wrap_i64]; omega
        rw [tc]
        all_goals
          go_wp2_with (fail)
          first
            | go_region_law ((go_simp; go_at_call 51; refine (H2S.out _).mono ?_; rintro e w3 ⟨rfl, hw3⟩; (have hb : Below w2.drew.heap.size w2.drew w3 := hw3 ▸ Below.refl _ _); clear hw3; (have A3 := below_call (Below.drew A2) hb); (have BO3 := BO.drew.below hb); (have CN3 := HN.out.drew.below hb); (have CF3 := HFF.out.drew.below hb); (have d0 : w3.cell? ⟨fb, q, none⟩ = some (.bool s) := (hb.cell (p := ⟨fb, q, none⟩) lF).trans cF); (have d1 : w3.cell? ⟨nb, k, none⟩ = some (.int .i64 0) := (hb.cell (p := ⟨nb, k, none⟩) lN).trans cN); (have fF3 := CF3.frz); (have fN3 := CN3.frz); (have lF3 := CF3.lt); (have lN3 := CN3.lt)))
            | fail
          all_goals
            have CF4 := Lib.hid (((CF3.set hqn (.bool v)).far (p := ⟨nb, k, none⟩) nf (.int .i64 z)).congr (G := fun i => .bool (skF ts ks o (k + 1) i)) (fun i _ => by
              rw [HS.out]; unfold upF
              by_cases e : i = q
              · rw [if_pos e, if_pos e]
              · rw [if_neg e, if_neg e]))
            have CN4 := Lib.hid (((CN3.far (p := ⟨fb, q, none⟩) fn (.bool v)).set hlt (.int .i64 z)).congr (G := fun i => if i < k + 1 then .int .i64 (nxV ts ks o i) else .int .i64 0) (fun i _ => by
              by_cases e2 : i = k
              · subst e2; rw [if_pos rfl, if_pos (by omega), HV.out]
              · rw [if_neg e2]
                by_cases e : i < k
                · rw [if_pos e, if_pos (by omega)]
                · rw [if_neg e, if_neg (by omega)]))
            have BO4 := Lib.hid ((BO3.far (p := ⟨fb, q, none⟩) of_ (.bool v)).far (p := ⟨nb, k, none⟩) on_ (.int .i64 z))
            have A4 := Lib.hid (below_set_on (below_set_on A3 (p := ⟨fb, q, none⟩) wf (.bool v)) (p := ⟨nb, k, none⟩) wn (.int .i64 z))
            clear A2 BO k0 lk lN lF lX cX fX x0 x1 x2 lO cO fO HN HFF A3 BO3 CN3 CF3 cF cN d0 d1 fF3 fN3 lF3 lN3 hb cF1
            go_wp2
            go_roundg (n - (k + 1))
            case measure => omega
            case rel => exact ⟨k + 1, by omega, by omega, by go_num, by rw [HNN.out], A4.out, BO4.out, CN4.out, CF4.out⟩
    · obtain rfl : k = n := by omega
      have hrd := HRD.out
      have c0 := CF.cell 0 (by omega)
      have lF := CF.lt
      have HN := Lib.hid (CN.congr (G := fun i => .int .i64 (nxV ts ks o i)) (fun i hi => by rw [if_pos hi]))
      clear CN CF BO
      rw [hrd]
      obtain ⟨v, hv⟩ : ∃ v, skF ts ks o k 0 = v := ⟨_, rfl⟩
      rw [hv] at c0
      have HVV := Lib.hid hv
      clear hv
      go_wp2_with (fail)
      refine wp_region_calm (by kernel_rfl) (by kernel_rfl) ?_
      repeat (go_big_quiet_step ((fail)))
      refine wpQuiet_nil ?_
      intro _ hw'
      obtain ⟨u, rfl⟩ := hw'
      have A3 := below_call A1 u.below
      have HN2 := Lib.hid (HN.out.below u.below)
      clear A1 HN c0
      go_wp2
      exact bodyPost_ret (v := .tuple #[.slice (some ⟨nb, 0, none⟩) k k, .bool v]) (by simp [results, Try.results28, go_sem]) rfl ⟨nb, by rw [HVV.out], HN2.out, wn, A3⟩
end Go.Proofs.Ytmemhlhjkpijpaa
