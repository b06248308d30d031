/- The document's Of. -/
import Derived.Test.YtjhdlcemeemlhaaTrOf
import Derived.Test.YtjhdlcemeemlhaaPutZ
import Derived.Test.YtjhdlcemeemlhaaTail
namespace Go.Proofs.Ytjhdlcemeemlhaa
open Go.RowKit Go.Maps
set_option linter.unusedVariables false
set_option linter.unusedSimpArgs false
set_option maxRecDepth 100000
attribute [local go_sem] cell_set_ite Near.cell Near.frozen

theorem all_cut (f : Nat → Ou) (i : Nat) (S : St) : (cutS f i S).all = S.all := by
  unfold cutS
  split
  · simp [St.all]
  · rfl
theorem lastI_hit {g : Nat → Bk} {p a : Int} {q : Nat} (h1 : ((g q).power == p) = true) (h2 : ((g q).minute == a) = true) : lastI g p a (q + 1) = q := by
  simp at h1 h2
  unfold lastI
  rw [if_pos (isB_iff.2 ⟨h1, h2⟩)]
theorem lastI_far {g : Nat → Bk} {p a : Int} {q : Nat} (h1 : ((g q).power == p) = false) : lastI g p a (q + 1) = lastI g p a q := by
  simp at h1
  conv => lhs; unfold lastI
  rw [if_neg (fun h => h1 (isB_iff.1 h).1)]
theorem lastI_late {g : Nat → Bk} {p a : Int} {q : Nat} (h2 : ((g q).minute == a) = false) : lastI g p a (q + 1) = lastI g p a q := by
  simp at h2
  conv => lhs; unfold lastI
  rw [if_neg (fun h => h2 (isB_iff.1 h).2)]
theorem set_end {l : List Bk} {x y : Bk} : (l ++ [x]).set l.length y = l ++ [y] := by
  rw [List.set_append, if_neg (by omega), Nat.sub_self]; rfl
theorem atL_end {l : List Bk} {x : Bk} : atL (l ++ [x]) l.length = x := by
  unfold atL
  simp [List.getD]
/-- One bucket stored, cell by cell. -/
theorem put_row {w : World} {base n c g K : Nat} {l : List Bk} (h : w.ownsRow base 33 7 (.slice (some ⟨g, 0, none⟩) n c) n (l.flatMap bkC)) (hl : l.length = n) (hK : K < n) (b : Bk) :
    (((((((w.setCell ⟨g, K * 7, none⟩ (.int .i64 b.power)).setCell ⟨g, K * 7 + 1, none⟩ (.int .i64 b.minute)).setCell ⟨g, K * 7 + 2, none⟩ (.int .i64 b.ticks)).setCell ⟨g, K * 7 + 3, none⟩ (.int .i64 b.drops)).setCell ⟨g, K * 7 + 4, none⟩ (.int .i64 b.least)).setCell ⟨g, K * 7 + 5, none⟩ (.int .i64 b.most)).setCell ⟨g, K * 7 + 6, none⟩ (.int .i64 b.volume)).ownsRow base 33 7 (.slice (some ⟨g, 0, none⟩) n c) n ((l.set K b).flatMap bkC) :=
  (own_set bkC_len h hl hK (one_bk b)).1
theorem row_near {w : World} {base n sz : Nat} {e : TypeId} {v : Value} {xs : List Value} (h : w.ownsRow base e sz v n xs) (u : Near w) : u.at_.ownsRow base e sz v n xs := by
  refine h.kept (Below.gb u.below) ?_
  cases h : v.ownBlock
  · exact .inl rfl
  · exact .inr (by simp)
theorem row_frozen {w : World} {base n c sz g : Nat} {e : TypeId} {xs : List Value} (h : w.ownsRow base e sz (.slice (some ⟨g, 0, none⟩) n c) n xs) : ∀ i, w.frozen? ⟨g, i, none⟩ = false := by
  rcases h.2 with ⟨hn, _⟩ | ⟨g', cap, cur, hv, hb, hh, r⟩
  · simp at hn
  · have hv' : g = g' ∧ c = cap := by simpa using hv
    obtain ⟨rfl, rfl⟩ := hv'
    intro i
    simp [World.frozen?, hh]
set_option maxHeartbeats 8000000 in
theorem rt_of (A : Option Addr) (n c : Nat) (f : Nat → Ou) (w : World) (h : Ous w A n f) (hc : n ≤ c) (hn : n ≤ 200) :
    Calls Try.prog 9 #[.slice A n c] w fun e w' => ∃ B d, e = .returned (.slice B (ofS f n).all.length d) ∧ (ofS f n).all.length ≤ d ∧ Bks w' B (ofS f n).all.length (atL (ofS f n).all) ∧ Below w.heap.size w w' := by
  have HI := Lib.hid h
  have HG := Lib.hid (ofS_good f n h.1)
  have HP := Lib.hid (ofS_p f)
  clear h
  go_enter Try.func9, Try.ntmps9
  go_wp2_with (fail)
  go_loopw [3, 4, 5, 6, 7, 8, 11] (fun l p _ _ _ _ i wr => ∃ k : Nat, k ≤ n ∧ i = .int .i64 k ∧ p = .int .i64 (ofS f k).p ∧ wr.ownsRow w.heap.size 33 7 l (ofS f k).all.length ((ofS f k).all.flatMap bkC) ∧ Below w.heap.size w wr) (fun _ _ _ _ _ _ i _ => n - (intOf i).toNat)
  case atStart => exact ⟨0, Nat.zero_le _, rfl, rfl, World.ownsRow_nil _ _ _ _, Below.refl _ _⟩
  case round =>
    obtain ⟨k, hk, rfl, rfl, hrow, B1⟩ := hrel
    have HG1 := Lib.hid (HG.out k hk)
    have hp1 := HP.out k
    have hp0 := HG1.out.p0
    have hb1 := B1.size
    have hll : (ofS f k).all.length ≤ k := by have := HG1.out.len; simp [St.all]; omega
    have HSH := Lib.hid (show ofS f (k + 1) = upS f k (cutS f k (ofS f k)) from rfl)
    have HAC := Lib.hid (all_cut f k (ofS f k))
    have HSE := Lib.hid (Good.search (f := f) (HG1.out.cut (f := f)))
    by_cases hlt : k < n
    · obtain ⟨bb, off, rfl, hbb, hcell⟩ := HI.out.at_ (w' := wr) (by omega)
      have hcl := hcell wr B1 k hlt
      have hai := mnO_in _ (HI.out.1 k hlt)
      have HC := Lib.hid hcell
      clear hcell
      generalize hS0 : ofS f k = S at *
      obtain ⟨a, ha⟩ : ∃ a, mnO (f k) = a := ⟨_, rfl⟩
      have hwr : wrap64 ((max (f k).tick 0).tdiv 6000) = a := by
        have e : wrap64 (mnO (f k)) = mnO (f k) := by unfold wrap64; omega
        exact e.trans ha
      rw [ha] at hai
      have hse := HSE.out
      rw [HAC.out, ha] at hse
      obtain ⟨p, hp⟩ : ∃ p, (cutS f k S).p = p := ⟨_, rfl⟩
      rw [hp] at hse
      have HEND := Lib.hid (show (ofS f (k + 1)).p = p from by rw [HSH.out]; exact hp)
      have HEA := Lib.hid (show (ofS f (k + 1)).all = (upS f k (cutS f k S)).all from by rw [HSH.out])
      rw [← HEA.out] at hse
      generalize hf : f k = o at *
      obtain ⟨c0, c1, c2, c3, c4, c5, c6, c7, c8, c9, c10⟩ := hcl
      obtain ⟨L, hL⟩ : ∃ L, S.all = L := ⟨_, rfl⟩
      rw [hL] at hrow hse hll
      obtain ⟨A0, d0, rfl, hd0⟩ := row_form hrow
      have HF := Lib.hid hf
      have HS0 := Lib.hid hS0
      have HA := Lib.hid ha
      have HRO := Lib.hid hrow
      have HSR := Lib.hid hse
      have HPP := Lib.hid hp
      clear hf hS0 ha hai hL HAC hrow hse HSE hp HSH HEA
      by_cases hk0 : 0 < k
      · cases ht : (o.tick == 0) with
        | false =>
          have hcut : cutS f k S = S := cut_no (by rw [HF.out]; rintro ⟨_, h2⟩; rw [h2] at ht; simp at ht)
          have hpp := HPP.out
          rw [hcut] at hpp
          try simp only at hpp
          have HP2 := Lib.hid hpp
          clear hcut hpp
          go_wp2_with (fail)
          clear hk0 ht
          rw [HP2.out, hwr]
          go_loopw [7, 8, 35] (fun r _ j w1 => ∃ q : Nat, q ≤ L.length ∧ j = .int .i64 q ∧ r = .int .i64 (lastI (atL L) p a q) ∧ w1 = wr) (fun _ _ j _ => L.length - (intOf j).toNat)
          case atStart => exact ⟨0, Nat.zero_le _, rfl, rfl, rfl⟩
          case round =>
            obtain ⟨q, hq, rfl, rfl, rfl⟩ := hrel
            by_cases hql : q < L.length
            · obtain ⟨g, rfl, hgb, hgl, hcg⟩ := row_cells bkC_len no0 HRO.out rfl (by omega)
              have x0 : wr.cell? ⟨g, q * 7, none⟩ = some (.int .i64 (atL L q).power) := hcg q hql 0 (by omega)
              have x1 : wr.cell? ⟨g, q * 7 + 1, none⟩ = some (.int .i64 (atL L q).minute) := hcg q hql 1 (by omega)
              have l1 := Lib.hid (@lastI_hit (atL L) p a q)
              have l2 := Lib.hid (@lastI_far (atL L) p a q)
              have l3 := Lib.hid (@lastI_late (atL L) p a q)
              clear hcg
              generalize (atL L q).power = xp at *
              generalize (atL L q).minute = xm at *
              cases hx1 : (xp == p) with
              | false =>
                go_wp2_with (fail)
                go_roundw
                case rel => exact ⟨q + 1, by omega, by go_num, by rw [l2.out hx1], by first | rfl | trivial⟩
                case measure => simp [intOf]; omega
              | true =>
                cases hx2 : (xm == a) with
                | false =>
                  go_wp2_with (fail)
                  go_roundw
                  case rel => exact ⟨q + 1, by omega, by go_num, by rw [l3.out hx2], by first | rfl | trivial⟩
                  case measure => simp [intOf]; omega
                | true =>
                  go_wp2_with (fail)
                  go_roundw
                  case rel => exact ⟨q + 1, by omega, by go_num, by rw [l1.out hx1 hx2], by first | rfl | trivial⟩
                  case measure => simp [intOf]; omega
            · obtain rfl : q = L.length := by omega
              rcases HSR.out with ⟨hla, hup⟩ | ⟨K, hK, hla, k1, k2, k3, k4, hup⟩
              · rw [hla]
                have HUP := Lib.hid (show (ofS f (k + 1)).all = L ++ [(⟨p, a, 1, if o.drop then 1 else 0, o.open_, o.open_, o.volume⟩ : Bk)] from by rw [hup]; simp [nwB, ctB])
                have KP := Lib.hid fun w => rt_put0 p a o w
                have HX := Lib.hid (show (L ++ [(⟨p, a, 0, 0, 0, 0, 0⟩ : Bk)]).getD L.length no0 = ⟨p, a, 0, 0, 0, 0, 0⟩ from atL_end)
                unfold bkV ouV at KP
                simp only at KP
                clear hla hup
                go_wp2_with (at_builtin; refine app_bk rfl _ _ rfl ⟨p, a, 0, 0, 0, 0, 0⟩ (p := wr.heap.size) rfl rfl rfl HRO.out hb1 (by omega) ?_; intro v3 w3 ho3 hg3)
                rw [List.length_append, List.length_singleton] at ho3
                have B3 := (B1.alloc hb1 (.cells (bkC ⟨p, a, 0, 0, 0, 0, 0⟩).toArray 33)).grown hg3 (by simp; omega) (fun q hq => by have := (HRO.out.lt q hq).1; omega)
                obtain ⟨c0, c1, c2, c3, c4, c5, c6, c7, c8, c9, c10⟩ := HC.out w3 B3 k hlt
                rw [HF.out] at c0 c1 c2 c3 c4 c5 c6 c7 c8 c9 c10
                have hbb3 : bb < w3.heap.size := Nat.lt_of_lt_of_le hbb B3.size
                obtain ⟨A3, d3, rfl, hd3⟩ := row_form ho3
                have HRW := Lib.hid ho3
                have DR := B3
                clear ho3 hg3
                obtain ⟨g, rfl, hgb, hgl, hcg⟩ := row_cells bkC_len no0 HRW.out (by simp) (by omega)
                have hcx := hcg L.length (by omega)
                rw [HX.out] at hcx
                have hfr := row_frozen HRW.out
                have y0 := hcx 0 (by omega)
                have y1 := hcx 1 (by omega)
                have y2 := hcx 2 (by omega)
                have y3 := hcx 3 (by omega)
                have y4 := hcx 4 (by omega)
                have y5 := hcx 5 (by omega)
                have y6 := hcx 6 (by omega)
                simp only [bkC, List.getElem?_cons_zero, List.getElem?_cons_succ, Nat.add_zero] at y0 y1 y2 y3 y4 y5 y6
                clear hcx hcg
                refine wp_region_calm_tail 12 (by kernel_rfl) (by kernel_rfl) ?_
                simp only [List.take_succ_cons, List.take_zero, List.drop_succ_cons, List.drop_zero]
                repeat (go_big_quiet_step (((go_at_call 14; exact calm_of _ (KP.out _)))))
                refine wpQuiet_nil ?_
                intro _ hw'
                obtain ⟨u, rfl⟩ := hw'
                go_wp2_with (fail)
                go_roundw
                case rel => exact ⟨k + 1, by omega, by go_num, by rw [HEND.out], by rw [HUP.out, List.length_append, ← set_end (x := ⟨p, a, 0, 0, 0, 0, 0⟩)]; exact put_row (row_near HRW.out u) (by simp) (by omega) ⟨p, a, 1, if o.drop then 1 else 0, o.open_, o.open_, o.volume⟩, by (repeat (first | (with_reducible exact Below.refl _ _) | (with_reducible assumption) | (with_reducible refine Near.up _ ?_) | (with_reducible refine Below.drew ?_) | (with_reducible refine below_alloc_on ?_ _) | (with_reducible refine below_set_on ?_ (by first | (simp; done) | (simp; omega) | omega) _)))⟩
                case measure => simp [intOf]; omega
              · rw [hla]
                obtain ⟨x, hx⟩ : ∃ x, atL L K = x := ⟨_, rfl⟩
                rw [hx] at k1 k2 k3 k4 hup
                have KP := Lib.hid fun w => rt_put x o (by omega) (by omega) (by omega) (by omega) w
                have HUP := Lib.hid (show (ofS f (k + 1)).all = L.set K (ctB x o) from hup)
                generalize ctB x o = nb at *
                have HX := Lib.hid (show L.getD K no0 = x from hx)
                unfold bkV ouV at KP
                clear hla hup hx
                have HRW := HRO
                have hbb3 : bb < wr.heap.size := Nat.lt_of_lt_of_le hbb hb1
                go_wp2_with (fail)
                obtain ⟨g, rfl, hgb, hgl, hcg⟩ := row_cells bkC_len no0 HRW.out (by rfl) (by omega)
                have hcx := hcg K (by omega)
                rw [HX.out] at hcx
                have hfr := row_frozen HRW.out
                have y0 := hcx 0 (by omega)
                have y1 := hcx 1 (by omega)
                have y2 := hcx 2 (by omega)
                have y3 := hcx 3 (by omega)
                have y4 := hcx 4 (by omega)
                have y5 := hcx 5 (by omega)
                have y6 := hcx 6 (by omega)
                simp only [bkC, List.getElem?_cons_zero, List.getElem?_cons_succ, Nat.add_zero] at y0 y1 y2 y3 y4 y5 y6
                clear hcx hcg
                refine wp_region_calm_tail 12 (by kernel_rfl) (by kernel_rfl) ?_
                simp only [List.take_succ_cons, List.take_zero, List.drop_succ_cons, List.drop_zero]
                repeat (go_big_quiet_step (((go_at_call 14; exact calm_of _ (KP.out _)))))
                refine wpQuiet_nil ?_
                intro _ hw'
                obtain ⟨u, rfl⟩ := hw'
                go_wp2_with (fail)
                go_roundw
                case rel => exact ⟨k + 1, by omega, by go_num, by rw [HEND.out], by rw [HUP.out, List.length_set]; exact put_row (row_near HRW.out u) (by rfl) (by omega) nb, by (repeat (first | (with_reducible exact Below.refl _ _) | (with_reducible assumption) | (with_reducible refine Near.up _ ?_) | (with_reducible refine Below.drew ?_) | (with_reducible refine below_alloc_on ?_ _) | (with_reducible refine below_set_on ?_ (by first | (simp; done) | (simp; omega) | omega) _)))⟩
                case measure => simp [intOf]; omega
        | true =>
          have hcut : cutS f k S = ⟨S.all, [], S.p + 1⟩ := cut_yes ⟨hk0, by rw [HF.out]; simpa using ht⟩
          have hpp := HPP.out
          rw [hcut] at hpp
          try simp only at hpp
          have HP2 := Lib.hid hpp
          clear hcut hpp
          go_wp2_with (fail)
          clear hk0 ht
          rw [HP2.out, hwr]
          go_loopw [7, 8, 35] (fun r _ j w1 => ∃ q : Nat, q ≤ L.length ∧ j = .int .i64 q ∧ r = .int .i64 (lastI (atL L) p a q) ∧ w1 = wr) (fun _ _ j _ => L.length - (intOf j).toNat)
          case atStart => exact ⟨0, Nat.zero_le _, rfl, rfl, rfl⟩
          case round =>
            obtain ⟨q, hq, rfl, rfl, rfl⟩ := hrel
            by_cases hql : q < L.length
            · obtain ⟨g, rfl, hgb, hgl, hcg⟩ := row_cells bkC_len no0 HRO.out rfl (by omega)
              have x0 : wr.cell? ⟨g, q * 7, none⟩ = some (.int .i64 (atL L q).power) := hcg q hql 0 (by omega)
              have x1 : wr.cell? ⟨g, q * 7 + 1, none⟩ = some (.int .i64 (atL L q).minute) := hcg q hql 1 (by omega)
              have l1 := Lib.hid (@lastI_hit (atL L) p a q)
              have l2 := Lib.hid (@lastI_far (atL L) p a q)
              have l3 := Lib.hid (@lastI_late (atL L) p a q)
              clear hcg
              generalize (atL L q).power = xp at *
              generalize (atL L q).minute = xm at *
              cases hx1 : (xp == p) with
              | false =>
                go_wp2_with (fail)
                go_roundw
                case rel => exact ⟨q + 1, by omega, by go_num, by rw [l2.out hx1], by first | rfl | trivial⟩
                case measure => simp [intOf]; omega
              | true =>
                cases hx2 : (xm == a) with
                | false =>
                  go_wp2_with (fail)
                  go_roundw
                  case rel => exact ⟨q + 1, by omega, by go_num, by rw [l3.out hx2], by first | rfl | trivial⟩
                  case measure => simp [intOf]; omega
                | true =>
                  go_wp2_with (fail)
                  go_roundw
                  case rel => exact ⟨q + 1, by omega, by go_num, by rw [l1.out hx1 hx2], by first | rfl | trivial⟩
                  case measure => simp [intOf]; omega
            · obtain rfl : q = L.length := by omega
              rcases HSR.out with ⟨hla, hup⟩ | ⟨K, hK, hla, k1, k2, k3, k4, hup⟩
              · rw [hla]
                have HUP := Lib.hid (show (ofS f (k + 1)).all = L ++ [(⟨p, a, 1, if o.drop then 1 else 0, o.open_, o.open_, o.volume⟩ : Bk)] from by rw [hup]; simp [nwB, ctB])
                have KP := Lib.hid fun w => rt_put0 p a o w
                have HX := Lib.hid (show (L ++ [(⟨p, a, 0, 0, 0, 0, 0⟩ : Bk)]).getD L.length no0 = ⟨p, a, 0, 0, 0, 0, 0⟩ from atL_end)
                unfold bkV ouV at KP
                simp only at KP
                clear hla hup
                go_wp2_with (at_builtin; refine app_bk rfl _ _ rfl ⟨p, a, 0, 0, 0, 0, 0⟩ (p := wr.heap.size) rfl rfl rfl HRO.out hb1 (by omega) ?_; intro v3 w3 ho3 hg3)
                rw [List.length_append, List.length_singleton] at ho3
                have B3 := (B1.alloc hb1 (.cells (bkC ⟨p, a, 0, 0, 0, 0, 0⟩).toArray 33)).grown hg3 (by simp; omega) (fun q hq => by have := (HRO.out.lt q hq).1; omega)
                obtain ⟨c0, c1, c2, c3, c4, c5, c6, c7, c8, c9, c10⟩ := HC.out w3 B3 k hlt
                rw [HF.out] at c0 c1 c2 c3 c4 c5 c6 c7 c8 c9 c10
                have hbb3 : bb < w3.heap.size := Nat.lt_of_lt_of_le hbb B3.size
                obtain ⟨A3, d3, rfl, hd3⟩ := row_form ho3
                have HRW := Lib.hid ho3
                have DR := B3
                clear ho3 hg3
                obtain ⟨g, rfl, hgb, hgl, hcg⟩ := row_cells bkC_len no0 HRW.out (by simp) (by omega)
                have hcx := hcg L.length (by omega)
                rw [HX.out] at hcx
                have hfr := row_frozen HRW.out
                have y0 := hcx 0 (by omega)
                have y1 := hcx 1 (by omega)
                have y2 := hcx 2 (by omega)
                have y3 := hcx 3 (by omega)
                have y4 := hcx 4 (by omega)
                have y5 := hcx 5 (by omega)
                have y6 := hcx 6 (by omega)
                simp only [bkC, List.getElem?_cons_zero, List.getElem?_cons_succ, Nat.add_zero] at y0 y1 y2 y3 y4 y5 y6
                clear hcx hcg
                refine wp_region_calm_tail 12 (by kernel_rfl) (by kernel_rfl) ?_
                simp only [List.take_succ_cons, List.take_zero, List.drop_succ_cons, List.drop_zero]
                repeat (go_big_quiet_step (((go_at_call 14; exact calm_of _ (KP.out _)))))
                refine wpQuiet_nil ?_
                intro _ hw'
                obtain ⟨u, rfl⟩ := hw'
                go_wp2_with (fail)
                go_roundw
                case rel => exact ⟨k + 1, by omega, by go_num, by rw [HEND.out], by rw [HUP.out, List.length_append, ← set_end (x := ⟨p, a, 0, 0, 0, 0, 0⟩)]; exact put_row (row_near HRW.out u) (by simp) (by omega) ⟨p, a, 1, if o.drop then 1 else 0, o.open_, o.open_, o.volume⟩, by (repeat (first | (with_reducible exact Below.refl _ _) | (with_reducible assumption) | (with_reducible refine Near.up _ ?_) | (with_reducible refine Below.drew ?_) | (with_reducible refine below_alloc_on ?_ _) | (with_reducible refine below_set_on ?_ (by first | (simp; done) | (simp; omega) | omega) _)))⟩
                case measure => simp [intOf]; omega
              · rw [hla]
                obtain ⟨x, hx⟩ : ∃ x, atL L K = x := ⟨_, rfl⟩
                rw [hx] at k1 k2 k3 k4 hup
                have KP := Lib.hid fun w => rt_put x o (by omega) (by omega) (by omega) (by omega) w
                have HUP := Lib.hid (show (ofS f (k + 1)).all = L.set K (ctB x o) from hup)
                generalize ctB x o = nb at *
                have HX := Lib.hid (show L.getD K no0 = x from hx)
                unfold bkV ouV at KP
                clear hla hup hx
                have HRW := HRO
                have hbb3 : bb < wr.heap.size := Nat.lt_of_lt_of_le hbb hb1
                go_wp2_with (fail)
                obtain ⟨g, rfl, hgb, hgl, hcg⟩ := row_cells bkC_len no0 HRW.out (by rfl) (by omega)
                have hcx := hcg K (by omega)
                rw [HX.out] at hcx
                have hfr := row_frozen HRW.out
                have y0 := hcx 0 (by omega)
                have y1 := hcx 1 (by omega)
                have y2 := hcx 2 (by omega)
                have y3 := hcx 3 (by omega)
                have y4 := hcx 4 (by omega)
                have y5 := hcx 5 (by omega)
                have y6 := hcx 6 (by omega)
                simp only [bkC, List.getElem?_cons_zero, List.getElem?_cons_succ, Nat.add_zero] at y0 y1 y2 y3 y4 y5 y6
                clear hcx hcg
                refine wp_region_calm_tail 12 (by kernel_rfl) (by kernel_rfl) ?_
                simp only [List.take_succ_cons, List.take_zero, List.drop_succ_cons, List.drop_zero]
                repeat (go_big_quiet_step (((go_at_call 14; exact calm_of _ (KP.out _)))))
                refine wpQuiet_nil ?_
                intro _ hw'
                obtain ⟨u, rfl⟩ := hw'
                go_wp2_with (fail)
                go_roundw
                case rel => exact ⟨k + 1, by omega, by go_num, by rw [HEND.out], by rw [HUP.out, List.length_set]; exact put_row (row_near HRW.out u) (by rfl) (by omega) nb, by (repeat (first | (with_reducible exact Below.refl _ _) | (with_reducible assumption) | (with_reducible refine Near.up _ ?_) | (with_reducible refine Below.drew ?_) | (with_reducible refine below_alloc_on ?_ _) | (with_reducible refine below_set_on ?_ (by first | (simp; done) | (simp; omega) | omega) _)))⟩
                case measure => simp [intOf]; omega
      · cases ht : (o.tick == 0) with
        | false =>
          have hcut : cutS f k S = S := cut_no (fun h => hk0 h.1)
          have hpp := HPP.out
          rw [hcut] at hpp
          try simp only at hpp
          have HP2 := Lib.hid hpp
          clear hcut hpp
          go_wp2_with (fail)
          clear hk0 ht
          rw [HP2.out, hwr]
          go_loopw [7, 8, 35] (fun r _ j w1 => ∃ q : Nat, q ≤ L.length ∧ j = .int .i64 q ∧ r = .int .i64 (lastI (atL L) p a q) ∧ w1 = wr) (fun _ _ j _ => L.length - (intOf j).toNat)
          case atStart => exact ⟨0, Nat.zero_le _, rfl, rfl, rfl⟩
          case round =>
            obtain ⟨q, hq, rfl, rfl, rfl⟩ := hrel
            by_cases hql : q < L.length
            · obtain ⟨g, rfl, hgb, hgl, hcg⟩ := row_cells bkC_len no0 HRO.out rfl (by omega)
              have x0 : wr.cell? ⟨g, q * 7, none⟩ = some (.int .i64 (atL L q).power) := hcg q hql 0 (by omega)
              have x1 : wr.cell? ⟨g, q * 7 + 1, none⟩ = some (.int .i64 (atL L q).minute) := hcg q hql 1 (by omega)
              have l1 := Lib.hid (@lastI_hit (atL L) p a q)
              have l2 := Lib.hid (@lastI_far (atL L) p a q)
              have l3 := Lib.hid (@lastI_late (atL L) p a q)
              clear hcg
              generalize (atL L q).power = xp at *
              generalize (atL L q).minute = xm at *
              cases hx1 : (xp == p) with
              | false =>
                go_wp2_with (fail)
                go_roundw
                case rel => exact ⟨q + 1, by omega, by go_num, by rw [l2.out hx1], by first | rfl | trivial⟩
                case measure => simp [intOf]; omega
              | true =>
                cases hx2 : (xm == a) with
                | false =>
                  go_wp2_with (fail)
                  go_roundw
                  case rel => exact ⟨q + 1, by omega, by go_num, by rw [l3.out hx2], by first | rfl | trivial⟩
                  case measure => simp [intOf]; omega
                | true =>
                  go_wp2_with (fail)
                  go_roundw
                  case rel => exact ⟨q + 1, by omega, by go_num, by rw [l1.out hx1 hx2], by first | rfl | trivial⟩
                  case measure => simp [intOf]; omega
            · obtain rfl : q = L.length := by omega
              rcases HSR.out with ⟨hla, hup⟩ | ⟨K, hK, hla, k1, k2, k3, k4, hup⟩
              · rw [hla]
                have HUP := Lib.hid (show (ofS f (k + 1)).all = L ++ [(⟨p, a, 1, if o.drop then 1 else 0, o.open_, o.open_, o.volume⟩ : Bk)] from by rw [hup]; simp [nwB, ctB])
                have KP := Lib.hid fun w => rt_put0 p a o w
                have HX := Lib.hid (show (L ++ [(⟨p, a, 0, 0, 0, 0, 0⟩ : Bk)]).getD L.length no0 = ⟨p, a, 0, 0, 0, 0, 0⟩ from atL_end)
                unfold bkV ouV at KP
                simp only at KP
                clear hla hup
                go_wp2_with (at_builtin; refine app_bk rfl _ _ rfl ⟨p, a, 0, 0, 0, 0, 0⟩ (p := wr.heap.size) rfl rfl rfl HRO.out hb1 (by omega) ?_; intro v3 w3 ho3 hg3)
                rw [List.length_append, List.length_singleton] at ho3
                have B3 := (B1.alloc hb1 (.cells (bkC ⟨p, a, 0, 0, 0, 0, 0⟩).toArray 33)).grown hg3 (by simp; omega) (fun q hq => by have := (HRO.out.lt q hq).1; omega)
                obtain ⟨c0, c1, c2, c3, c4, c5, c6, c7, c8, c9, c10⟩ := HC.out w3 B3 k hlt
                rw [HF.out] at c0 c1 c2 c3 c4 c5 c6 c7 c8 c9 c10
                have hbb3 : bb < w3.heap.size := Nat.lt_of_lt_of_le hbb B3.size
                obtain ⟨A3, d3, rfl, hd3⟩ := row_form ho3
                have HRW := Lib.hid ho3
                have DR := B3
                clear ho3 hg3
                obtain ⟨g, rfl, hgb, hgl, hcg⟩ := row_cells bkC_len no0 HRW.out (by simp) (by omega)
                have hcx := hcg L.length (by omega)
                rw [HX.out] at hcx
                have hfr := row_frozen HRW.out
                have y0 := hcx 0 (by omega)
                have y1 := hcx 1 (by omega)
                have y2 := hcx 2 (by omega)
                have y3 := hcx 3 (by omega)
                have y4 := hcx 4 (by omega)
                have y5 := hcx 5 (by omega)
                have y6 := hcx 6 (by omega)
                simp only [bkC, List.getElem?_cons_zero, List.getElem?_cons_succ, Nat.add_zero] at y0 y1 y2 y3 y4 y5 y6
                clear hcx hcg
                refine wp_region_calm_tail 12 (by kernel_rfl) (by kernel_rfl) ?_
                simp only [List.take_succ_cons, List.take_zero, List.drop_succ_cons, List.drop_zero]
                repeat (go_big_quiet_step (((go_at_call 14; exact calm_of _ (KP.out _)))))
                refine wpQuiet_nil ?_
                intro _ hw'
                obtain ⟨u, rfl⟩ := hw'
                go_wp2_with (fail)
                go_roundw
                case rel => exact ⟨k + 1, by omega, by go_num, by rw [HEND.out], by rw [HUP.out, List.length_append, ← set_end (x := ⟨p, a, 0, 0, 0, 0, 0⟩)]; exact put_row (row_near HRW.out u) (by simp) (by omega) ⟨p, a, 1, if o.drop then 1 else 0, o.open_, o.open_, o.volume⟩, by (repeat (first | (with_reducible exact Below.refl _ _) | (with_reducible assumption) | (with_reducible refine Near.up _ ?_) | (with_reducible refine Below.drew ?_) | (with_reducible refine below_alloc_on ?_ _) | (with_reducible refine below_set_on ?_ (by first | (simp; done) | (simp; omega) | omega) _)))⟩
                case measure => simp [intOf]; omega
              · rw [hla]
                obtain ⟨x, hx⟩ : ∃ x, atL L K = x := ⟨_, rfl⟩
                rw [hx] at k1 k2 k3 k4 hup
                have KP := Lib.hid fun w => rt_put x o (by omega) (by omega) (by omega) (by omega) w
                have HUP := Lib.hid (show (ofS f (k + 1)).all = L.set K (ctB x o) from hup)
                generalize ctB x o = nb at *
                have HX := Lib.hid (show L.getD K no0 = x from hx)
                unfold bkV ouV at KP
                clear hla hup hx
                have HRW := HRO
                have hbb3 : bb < wr.heap.size := Nat.lt_of_lt_of_le hbb hb1
                go_wp2_with (fail)
                obtain ⟨g, rfl, hgb, hgl, hcg⟩ := row_cells bkC_len no0 HRW.out (by rfl) (by omega)
                have hcx := hcg K (by omega)
                rw [HX.out] at hcx
                have hfr := row_frozen HRW.out
                have y0 := hcx 0 (by omega)
                have y1 := hcx 1 (by omega)
                have y2 := hcx 2 (by omega)
                have y3 := hcx 3 (by omega)
                have y4 := hcx 4 (by omega)
                have y5 := hcx 5 (by omega)
                have y6 := hcx 6 (by omega)
                simp only [bkC, List.getElem?_cons_zero, List.getElem?_cons_succ, Nat.add_zero] at y0 y1 y2 y3 y4 y5 y6
                clear hcx hcg
                refine wp_region_calm_tail 12 (by kernel_rfl) (by kernel_rfl) ?_
                simp only [List.take_succ_cons, List.take_zero, List.drop_succ_cons, List.drop_zero]
                repeat (go_big_quiet_step (((go_at_call 14; exact calm_of _ (KP.out _)))))
                refine wpQuiet_nil ?_
                intro _ hw'
                obtain ⟨u, rfl⟩ := hw'
                go_wp2_with (fail)
                go_roundw
                case rel => exact ⟨k + 1, by omega, by go_num, by rw [HEND.out], by rw [HUP.out, List.length_set]; exact put_row (row_near HRW.out u) (by rfl) (by omega) nb, by (repeat (first | (with_reducible exact Below.refl _ _) | (with_reducible assumption) | (with_reducible refine Near.up _ ?_) | (with_reducible refine Below.drew ?_) | (with_reducible refine below_alloc_on ?_ _) | (with_reducible refine below_set_on ?_ (by first | (simp; done) | (simp; omega) | omega) _)))⟩
                case measure => simp [intOf]; omega
        | true =>
          have hcut : cutS f k S = S := cut_no (fun h => hk0 h.1)
          have hpp := HPP.out
          rw [hcut] at hpp
          try simp only at hpp
          have HP2 := Lib.hid hpp
          clear hcut hpp
          go_wp2_with (fail)
          clear hk0 ht
          rw [HP2.out, hwr]
          go_loopw [7, 8, 35] (fun r _ j w1 => ∃ q : Nat, q ≤ L.length ∧ j = .int .i64 q ∧ r = .int .i64 (lastI (atL L) p a q) ∧ w1 = wr) (fun _ _ j _ => L.length - (intOf j).toNat)
          case atStart => exact ⟨0, Nat.zero_le _, rfl, rfl, rfl⟩
          case round =>
            obtain ⟨q, hq, rfl, rfl, rfl⟩ := hrel
            by_cases hql : q < L.length
            · obtain ⟨g, rfl, hgb, hgl, hcg⟩ := row_cells bkC_len no0 HRO.out rfl (by omega)
              have x0 : wr.cell? ⟨g, q * 7, none⟩ = some (.int .i64 (atL L q).power) := hcg q hql 0 (by omega)
              have x1 : wr.cell? ⟨g, q * 7 + 1, none⟩ = some (.int .i64 (atL L q).minute) := hcg q hql 1 (by omega)
              have l1 := Lib.hid (@lastI_hit (atL L) p a q)
              have l2 := Lib.hid (@lastI_far (atL L) p a q)
              have l3 := Lib.hid (@lastI_late (atL L) p a q)
              clear hcg
              generalize (atL L q).power = xp at *
              generalize (atL L q).minute = xm at *
              cases hx1 : (xp == p) with
              | false =>
                go_wp2_with (fail)
                go_roundw
                case rel => exact ⟨q + 1, by omega, by go_num, by rw [l2.out hx1], by first | rfl | trivial⟩
                case measure => simp [intOf]; omega
              | true =>
                cases hx2 : (xm == a) with
                | false =>
                  go_wp2_with (fail)
                  go_roundw
                  case rel => exact ⟨q + 1, by omega, by go_num, by rw [l3.out hx2], by first | rfl | trivial⟩
                  case measure => simp [intOf]; omega
                | true =>
                  go_wp2_with (fail)
                  go_roundw
                  case rel => exact ⟨q + 1, by omega, by go_num, by rw [l1.out hx1 hx2], by first | rfl | trivial⟩
                  case measure => simp [intOf]; omega
            · obtain rfl : q = L.length := by omega
              rcases HSR.out with ⟨hla, hup⟩ | ⟨K, hK, hla, k1, k2, k3, k4, hup⟩
              · rw [hla]
                have HUP := Lib.hid (show (ofS f (k + 1)).all = L ++ [(⟨p, a, 1, if o.drop then 1 else 0, o.open_, o.open_, o.volume⟩ : Bk)] from by rw [hup]; simp [nwB, ctB])
                have KP := Lib.hid fun w => rt_put0 p a o w
                have HX := Lib.hid (show (L ++ [(⟨p, a, 0, 0, 0, 0, 0⟩ : Bk)]).getD L.length no0 = ⟨p, a, 0, 0, 0, 0, 0⟩ from atL_end)
                unfold bkV ouV at KP
                simp only at KP
                clear hla hup
                go_wp2_with (at_builtin; refine app_bk rfl _ _ rfl ⟨p, a, 0, 0, 0, 0, 0⟩ (p := wr.heap.size) rfl rfl rfl HRO.out hb1 (by omega) ?_; intro v3 w3 ho3 hg3)
                rw [List.length_append, List.length_singleton] at ho3
                have B3 := (B1.alloc hb1 (.cells (bkC ⟨p, a, 0, 0, 0, 0, 0⟩).toArray 33)).grown hg3 (by simp; omega) (fun q hq => by have := (HRO.out.lt q hq).1; omega)
                obtain ⟨c0, c1, c2, c3, c4, c5, c6, c7, c8, c9, c10⟩ := HC.out w3 B3 k hlt
                rw [HF.out] at c0 c1 c2 c3 c4 c5 c6 c7 c8 c9 c10
                have hbb3 : bb < w3.heap.size := Nat.lt_of_lt_of_le hbb B3.size
                obtain ⟨A3, d3, rfl, hd3⟩ := row_form ho3
                have HRW := Lib.hid ho3
                have DR := B3
                clear ho3 hg3
                obtain ⟨g, rfl, hgb, hgl, hcg⟩ := row_cells bkC_len no0 HRW.out (by simp) (by omega)
                have hcx := hcg L.length (by omega)
                rw [HX.out] at hcx
                have hfr := row_frozen HRW.out
                have y0 := hcx 0 (by omega)
                have y1 := hcx 1 (by omega)
                have y2 := hcx 2 (by omega)
                have y3 := hcx 3 (by omega)
                have y4 := hcx 4 (by omega)
                have y5 := hcx 5 (by omega)
                have y6 := hcx 6 (by omega)
                simp only [bkC, List.getElem?_cons_zero, List.getElem?_cons_succ, Nat.add_zero] at y0 y1 y2 y3 y4 y5 y6
                clear hcx hcg
                refine wp_region_calm_tail 12 (by kernel_rfl) (by kernel_rfl) ?_
                simp only [List.take_succ_cons, List.take_zero, List.drop_succ_cons, List.drop_zero]
                repeat (go_big_quiet_step (((go_at_call 14; exact calm_of _ (KP.out _)))))
                refine wpQuiet_nil ?_
                intro _ hw'
                obtain ⟨u, rfl⟩ := hw'
                go_wp2_with (fail)
                go_roundw
                case rel => exact ⟨k + 1, by omega, by go_num, by rw [HEND.out], by rw [HUP.out, List.length_append, ← set_end (x := ⟨p, a, 0, 0, 0, 0, 0⟩)]; exact put_row (row_near HRW.out u) (by simp) (by omega) ⟨p, a, 1, if o.drop then 1 else 0, o.open_, o.open_, o.volume⟩, by (repeat (first | (with_reducible exact Below.refl _ _) | (with_reducible assumption) | (with_reducible refine Near.up _ ?_) | (with_reducible refine Below.drew ?_) | (with_reducible refine below_alloc_on ?_ _) | (with_reducible refine below_set_on ?_ (by first | (simp; done) | (simp; omega) | omega) _)))⟩
                case measure => simp [intOf]; omega
              · rw [hla]
                obtain ⟨x, hx⟩ : ∃ x, atL L K = x := ⟨_, rfl⟩
                rw [hx] at k1 k2 k3 k4 hup
                have KP := Lib.hid fun w => rt_put x o (by omega) (by omega) (by omega) (by omega) w
                have HUP := Lib.hid (show (ofS f (k + 1)).all = L.set K (ctB x o) from hup)
                generalize ctB x o = nb at *
                have HX := Lib.hid (show L.getD K no0 = x from hx)
                unfold bkV ouV at KP
                clear hla hup hx
                have HRW := HRO
                have hbb3 : bb < wr.heap.size := Nat.lt_of_lt_of_le hbb hb1
                go_wp2_with (fail)
                obtain ⟨g, rfl, hgb, hgl, hcg⟩ := row_cells bkC_len no0 HRW.out (by rfl) (by omega)
                have hcx := hcg K (by omega)
                rw [HX.out] at hcx
                have hfr := row_frozen HRW.out
                have y0 := hcx 0 (by omega)
                have y1 := hcx 1 (by omega)
                have y2 := hcx 2 (by omega)
                have y3 := hcx 3 (by omega)
                have y4 := hcx 4 (by omega)
                have y5 := hcx 5 (by omega)
                have y6 := hcx 6 (by omega)
                simp only [bkC, List.getElem?_cons_zero, List.getElem?_cons_succ, Nat.add_zero] at y0 y1 y2 y3 y4 y5 y6
                clear hcx hcg
                refine wp_region_calm_tail 12 (by kernel_rfl) (by kernel_rfl) ?_
                simp only [List.take_succ_cons, List.take_zero, List.drop_succ_cons, List.drop_zero]
                repeat (go_big_quiet_step (((go_at_call 14; exact calm_of _ (KP.out _)))))
                refine wpQuiet_nil ?_
                intro _ hw'
                obtain ⟨u, rfl⟩ := hw'
                go_wp2_with (fail)
                go_roundw
                case rel => exact ⟨k + 1, by omega, by go_num, by rw [HEND.out], by rw [HUP.out, List.length_set]; exact put_row (row_near HRW.out u) (by rfl) (by omega) nb, by (repeat (first | (with_reducible exact Below.refl _ _) | (with_reducible assumption) | (with_reducible refine Near.up _ ?_) | (with_reducible refine Below.drew ?_) | (with_reducible refine below_alloc_on ?_ _) | (with_reducible refine below_set_on ?_ (by first | (simp; done) | (simp; omega) | omega) _)))⟩
                case measure => simp [intOf]; omega
    · obtain rfl : k = n := by omega
      obtain ⟨A0, d0, rfl, hd0⟩ := row_form hrow
      have HFIN := Lib.hid (bks_row hrow rfl)
      clear hrow
      go_wp2_with (fail)
      all_goals go_ret
      all_goals exact ⟨A0, d0, rfl, hd0, HFIN.out, B1⟩
end Go.Proofs.Ytjhdlcemeemlhaa
