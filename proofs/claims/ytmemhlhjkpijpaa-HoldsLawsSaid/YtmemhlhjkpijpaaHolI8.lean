/- holds.truths at one kind of formula. -/
import Derived.Test.YtmemhlhjkpijpaaHolH
namespace Go.Proofs.Ytmemhlhjkpijpaa
open Go.RowKit
set_option linter.unusedVariables false
set_option linter.unusedSimpArgs false
set_option maxRecDepth 100000
attribute [local go_sem] cell_set_ite Near.cell Near.frozen

theorem tmps_at {a : Act} {N s : Nat} {v : Value} (hN : a.tmps.size = N) (hs : s < N) (h : a.eval (.tmp s) = v) : a.tmps[s]? = some v := by
  have h2 : a.tmps.getD s undef = v := h
  rw [← h2]
  simp [hN, hs]
theorem act_putsR (l : List (Nat × Value)) : ∀ {a0 ac : Act}, ac.tmps.size = a0.tmps.size → ac.defers = a0.defers → (∀ p ∈ l, ac.tmps[p.1]? = some p.2) → (∀ s, (∀ p ∈ l, p.1 ≠ s) → ac.tmps[s]? = a0.tmps[s]?) → ac = l.foldl (fun a p => a.put (some p.1) p.2) a0 := by
  induction l with
  | nil =>
    intro a0 ac h1 h2 _ h4
    obtain ⟨t, d⟩ := ac
    obtain ⟨t0, d0⟩ := a0
    simp only at h1 h2 h4
    subst h2
    show (⟨t, d⟩ : Act) = ⟨t0, d⟩
    congr 1
    apply Array.ext_getElem?
    intro i
    exact h4 i (by simp)
  | cons x r ih =>
    intro a0 ac h1 h2 h3 h4
    have hx := h3 x (by simp)
    show ac = r.foldl _ (a0.put (some x.1) x.2)
    refine ih (by simp [Act.put, h1]) h2 (fun p hp => h3 p (by simp [hp])) (fun s hs => ?_)
    have hlt : x.1 < a0.tmps.size := by rw [← h1]; exact (Array.getElem?_eq_some_iff.1 hx).1
    show _ = (a0.tmps.setIfInBounds x.1 x.2)[s]?
    by_cases e : x.1 = s
    · subst e
      rw [hx]
      simp [hlt]
    · rw [Array.getElem?_setIfInBounds_ne e]
      exact h4 s (fun p hp => by
        rcases List.mem_cons.1 hp with rfl | hp
        · exact e
        · exact hs p hp)
theorem act_puts {ops : Array Oper} {a0 ac : Act} (l : List (Nat × Value)) (N : Nat) (hN : ac.tmps.size = N) (h0 : a0.tmps.size = N) (hdf : ac.defers = a0.defers) (h3 : ∀ p ∈ l, ac.tmps[p.1]? = some p.2) (hO : ∀ s, isDst ops s = false → ac.tmps[s]? = a0.tmps[s]?)
    (hall : ((List.range N).all fun s => (l.map (·.1)).contains s || !(isDst ops s)) = true) : ac = l.foldl (fun a p => a.put (some p.1) p.2) a0 := by
  refine act_putsR l (hN.trans h0.symm) hdf h3 (fun s hs => ?_)
  by_cases hl : s < N
  · refine hO s ?_
    have := List.all_eq_true.1 hall s (List.mem_range.2 hl)
    rcases Bool.or_eq_true_iff.1 this with h | h
    · rw [List.contains_iff_mem] at h
      obtain ⟨p, hp, e⟩ := List.mem_map.1 h
      exact absurd e (hs p hp)
    · simpa using h
  · rw [Array.getElem?_eq_none (by omega), Array.getElem?_eq_none (by omega)]
set_option maxHeartbeats 8000000 in
theorem tru_since (a b : Mn) (B : Option Addr) (n d : Nat) (os : Nat → Ou) (hn : n ≤ 100000) (w : World) (ho : Outs w B n os)
    (IHa : ∀ (B : Option Addr) (d : Nat) (w : World), Outs w B n os → Calls Try.prog 17 #[a.val, .slice B n d] w (ListR n (fun i => .bool (soM os a i)) w))
    (IHb : ∀ (B : Option Addr) (d : Nat) (w : World), Outs w B n os → Calls Try.prog 17 #[b.val, .slice B n d] w (ListR n (fun i => .bool (soM os b i)) w))
    : Calls Try.prog 17 #[(Mn.since a b).val, .slice B n d] w (ListR n (fun i => .bool (soM os (.since a b) i)) w) := by
  have hmf : ∀ (fn : Fn) (first cap : Array Value) (w : World), (Instr.makeFunc fn first cap).run Try.prog w = .ok (.func fn first cap) w := fun _ _ _ _ => rfl
  rw [show (Mn.since a b).val = .iface 80 (.agg #[a.val, b.val]) from rfl]
  have hm : ∀ w : World, (method 217 80 (.agg #[a.val, b.val]) "pinchcock/holds.parts").run Try.prog w = .ok (78, .agg #[a.val, b.val]) w := fun _ => by kernel_rfl
  have as_atom : ∀ w : World, (Instr.typeAssert (.iface 80 (.agg #[a.val, b.val])) 44 62 true).run Try.prog w = .ok (.tuple #[.agg #[.int .i64 0, .int .i64 0], .bool false]) w := fun _ => by kernel_rfl
  have as_hazard : ∀ w : World, (Instr.typeAssert (.iface 80 (.agg #[a.val, b.val])) 44 66 true).run Try.prog w = .ok (.tuple #[.agg #[.int .i64 0], .bool false]) w := fun _ => by kernel_rfl
  have as_not : ∀ w : World, (Instr.typeAssert (.iface 80 (.agg #[a.val, b.val])) 44 70 true).run Try.prog w = .ok (.tuple #[.agg #[.nilIface], .bool false]) w := fun _ => by kernel_rfl
  have as_both : ∀ w : World, (Instr.typeAssert (.iface 80 (.agg #[a.val, b.val])) 44 74 true).run Try.prog w = .ok (.tuple #[.agg #[.nilIface, .nilIface], .bool false]) w := fun _ => by kernel_rfl
  have as_either : ∀ w : World, (Instr.typeAssert (.iface 80 (.agg #[a.val, b.val])) 44 75 true).run Try.prog w = .ok (.tuple #[.agg #[.nilIface, .nilIface], .bool false]) w := fun _ => by kernel_rfl
  have as_once : ∀ w : World, (Instr.typeAssert (.iface 80 (.agg #[a.val, b.val])) 44 77 true).run Try.prog w = .ok (.tuple #[.agg #[.nilIface, .int .i64 0], .bool false]) w := fun _ => by kernel_rfl
  have as_always : ∀ w : World, (Instr.typeAssert (.iface 80 (.agg #[a.val, b.val])) 44 79 true).run Try.prog w = .ok (.tuple #[.agg #[.nilIface, .int .i64 0], .bool false]) w := fun _ => by kernel_rfl
  have as_since : ∀ w : World, (Instr.typeAssert (.iface 80 (.agg #[a.val, b.val])) 44 80 true).run Try.prog w = .ok (.tuple #[.agg #[a.val, b.val], .bool true]) w := fun _ => by kernel_rfl
  have HO := Lib.hid (fun w' (hb : Below w.heap.size w w') => ho.below hb)
  have A0 := below_alloc_on (below_alloc_on (Below.refl w.heap.size w) (.cells #[.slice B n d] 23)) (.cells #[.slice none 0 0] 56)
  clear ho
  have Ha := Lib.hid IHa
  clear IHa
  have Hb := Lib.hid IHb
  clear IHb
  go_enter Try.func17, Try.ntmps17
  have P0 := (box_new w #[.slice B n d] 23).alloc (.cells #[.slice none 0 0] 56)
  have Q0 := box_at (w.alloc (.cells #[.slice B n d] 23)) #[.slice none 0 0] 56 (g := w.heap.size + 1) (by simp)
  go_wp2_with (go_at_call 78; refine (pa_two a b _).mono ?_; rintro e w1 ⟨gp, rfl, CP, hgp, hb⟩; have A1 := below_call A0 hb; have P1 := P0.below hb; have Q1 := Q0.below hb; have lgp := CP.lt; have HCP := Lib.hid CP; clear hb P0 Q0 A0 CP)
  obtain ⟨p, hp⟩ : ∃ p, w.heap.size = p := ⟨_, rfl⟩
  have hpw : w.heap.size ≤ p := by omega
  simp only [hp] at P1 Q1
  simp only [hp]
  have hgp : p + 2 ≤ gp := by simp at hgp; omega
  clear hp
  go_loopg [7, 23] 2 (fun gk x i wr => ∃ (k : Nat) (v : Value) (vs : List Value), k ≤ 2 ∧ gk = 2 - k ∧ i = .int .i64 k ∧ TrS w1 (p + 1) n (fun i => if i = 0 then soM os a else soM os b) k v vs wr)
  case atStart => exact ⟨0, _, _, by omega, rfl, rfl, TrS.first n _ Q1⟩
  case round =>
    obtain ⟨k, v, vs, hk, rfl, rfl, hs⟩ := hrel
    have Br := A1.trans (hs.bel.mono (by omega))
    by_cases hlt : k < 2
    · have lq := hs.box.1
      have s3 := hs.bel.size
      have c3 : wr.cell? ⟨p, 0, none⟩ = some (.slice B n d) := (World.cell?_of_block (hs.bel.block p (by omega))).trans (P1.2.1 0)
      have l3 : p < wr.heap.size := by omega
      have c5 : wr.cell? ⟨p + 1, 0, none⟩ = some v := hs.box.2.1 0
      have f5 : wr.frozen? ⟨p + 1, 0, none⟩ = false := hs.box.2.2 0
      have cP : wr.cell? ⟨gp, k, none⟩ = some ((fun i => if i = 0 then a.val else b.val) k) := (World.cell?_of_block (hs.oth gp (by omega) lgp)).trans (HCP.out.cell k hlt)
      have lP : gp < wr.heap.size := by omega
      have HOW := Lib.hid (HO.out wr Br)
      have HS := Lib.hid hs
      clear hs
      obtain rfl | rfl : k = 0 ∨ k = 1 := by omega
      · have HI := Lib.hid (fun w' (hb : Below wr.heap.size wr w') => Ha.out B d w' (HOW.out.below hb))
        have hl := HS.out.len
        have HL := Lib.hid hl
        have hl9 : vs.length ≤ 9 := by omega
        clear hl
        go_wp2_with (fail)
        first
        | go_region_law (first
          | ((go_simp; go_at_call 17; refine (HI.out _ ((Below.refl _ _).drew)).mono ?_; rintro e w3 ⟨g3, rfl, C3, hg3, hb0⟩; (have hb : Below wr.heap.size wr w3 := ((Below.refl wr.heap.size wr).drew).trans (hb0.mono (Nat.le_refl _))); clear hb0; (have S3 := HS.out.below (w3 := w3) hb); (have d5 : w3.cell? ⟨p + 1, 0, none⟩ = some v := S3.box.2.1 0); (have sz3 : w1.heap.size ≤ w3.heap.size := by have := hb.size; omega); (have l5 : p + 1 < w3.heap.size := by have := hb.size; omega); (have HS3 := Lib.hid S3); (have HC3 := Lib.hid C3); (have hg1 : w1.heap.size ≤ g3 := by have hx : wr.heap.size ≤ g3 := hg3; omega); (have HN3 := Lib.hid (show some g3 ≠ Value.ownBlock v from fun e => by have := (HS.out.own.lt g3 e.symm).2; have hx : wr.heap.size ≤ g3 := hg3; omega)); clear hb S3 C3))
          | (refine step_app_at rfl (.tmp 27) (.tmp 31) 56 40 _ _ rfl Try.underlying56 bools_info rfl (.slice (some ⟨g3, 0, none⟩) n n) rfl (by simp [Act.eval, Act.put]) (by simp [Act.eval, Act.put]) HS3.out.own sz3 (by omega) (by omega) ?_; intro v' w4 h1 h2 h3; (obtain ⟨Pv, dv, rfl, _⟩ := own_form h1); (obtain ⟨e5, e6, e7⟩ := HS3.out.slot h2); (have HS4 := Lib.hid (HS3.out.next HC3.out HN3.out hg1 rfl h1 h2 h3)); clear h1 h2 h3))
        | fail
        all_goals
          clear d5 sz3 l5 HS3 HC3 hg1 HN3 hg3 e5 e6 e7
          go_wp2_with (fail)
          go_roundg (2 - (0 + 1))
          case measure => omega
          case rel => exact ⟨0 + 1, _, _, by omega, by omega, by go_num, HS4.out⟩
      · have HI := Lib.hid (fun w' (hb : Below wr.heap.size wr w') => Hb.out B d w' (HOW.out.below hb))
        have hl := HS.out.len
        have HL := Lib.hid hl
        have hl9 : vs.length ≤ 9 := by omega
        clear hl
        go_wp2_with (fail)
        first
        | go_region_law (first
          | ((go_simp; go_at_call 17; refine (HI.out _ ((Below.refl _ _).drew)).mono ?_; rintro e w3 ⟨g3, rfl, C3, hg3, hb0⟩; (have hb : Below wr.heap.size wr w3 := ((Below.refl wr.heap.size wr).drew).trans (hb0.mono (Nat.le_refl _))); clear hb0; (have S3 := HS.out.below (w3 := w3) hb); (have d5 : w3.cell? ⟨p + 1, 0, none⟩ = some v := S3.box.2.1 0); (have sz3 : w1.heap.size ≤ w3.heap.size := by have := hb.size; omega); (have l5 : p + 1 < w3.heap.size := by have := hb.size; omega); (have HS3 := Lib.hid S3); (have HC3 := Lib.hid C3); (have hg1 : w1.heap.size ≤ g3 := by have hx : wr.heap.size ≤ g3 := hg3; omega); (have HN3 := Lib.hid (show some g3 ≠ Value.ownBlock v from fun e => by have := (HS.out.own.lt g3 e.symm).2; have hx : wr.heap.size ≤ g3 := hg3; omega)); clear hb S3 C3))
          | (refine step_app_at rfl (.tmp 27) (.tmp 31) 56 40 _ _ rfl Try.underlying56 bools_info rfl (.slice (some ⟨g3, 0, none⟩) n n) rfl (by simp [Act.eval, Act.put]) (by simp [Act.eval, Act.put]) HS3.out.own sz3 (by omega) (by omega) ?_; intro v' w4 h1 h2 h3; (obtain ⟨Pv, dv, rfl, _⟩ := own_form h1); (obtain ⟨e5, e6, e7⟩ := HS3.out.slot h2); (have HS4 := Lib.hid (HS3.out.next HC3.out HN3.out hg1 rfl h1 h2 h3)); clear h1 h2 h3))
        | fail
        all_goals
          clear d5 sz3 l5 HS3 HC3 hg1 HN3 hg3 e5 e6 e7
          go_wp2_with (fail)
          go_roundg (2 - (1 + 1))
          case measure => omega
          case rel => exact ⟨1 + 1, _, _, by omega, by omega, by go_num, HS4.out⟩
    · obtain rfl : k = 2 := by omega
      have lq := hs.box.1
      have c3 : wr.cell? ⟨p, 0, none⟩ = some (.slice B n d) := (World.cell?_of_block (hs.bel.block p (by omega))).trans (P1.2.1 0)
      have l3 : p < wr.heap.size := by omega
      have HP := Lib.hid (show Held wr p #[.slice B n d] from ⟨l3, fun i hi => (show i = 0 by simpa using hi) ▸ c3⟩)
      have hsz := Br.size
      have HB := Lib.hid (hs.blw (by omega))
      clear hs hm
      obtain ⟨T1, x1, fa⟩ := a.form
      rw [fa]
      simp only [fa] at as_atom as_hazard as_not as_both as_either as_once as_always as_since
      clear fa
      obtain ⟨T2, x2, fb⟩ := b.form
      rw [fb]
      simp only [fb] at as_atom as_hazard as_not as_both as_either as_once as_always as_since
      clear fb
      obtain ⟨a1, o1, c1, hH, la, hcl⟩ := HB.out
      obtain ⟨g0, k0, C0⟩ := hcl 0 (by omega)
      obtain ⟨g1, k1, C1⟩ := hcl 1 (by omega)
      rw [Nat.add_zero] at k0
      have c5 : wr.cell? ⟨p + 1, 0, none⟩ = some (.slice (some ⟨a1, o1, none⟩) 2 c1) := hH.2 0 (by simp)
      have HV0 := Lib.hid (Vals.col C0)
      have HV1 := Lib.hid (Vals.col C1)
      clear hH hcl C0 C1
      have A5 := below_alloc_on (Below.refl wr.heap.size wr) (.cells #[.iface T1 x1, .iface T2 x2] 80)
      go_wp2_with (fail)
      refine at_world (fun W => Below wr.heap.size wr W) A5 ?_
      intro W0 AW
      have HC5 := Lib.hid (fun u (h : Below W0.heap.size W0 u) => ((below_call AW h).cell (p := ⟨p + 1, 0, none⟩) lq).trans c5)
      have HK0 := Lib.hid (fun u (h : Below W0.heap.size W0 u) => ((below_call AW h).cell (p := ⟨a1, o1, none⟩) la).trans k0)
      have HK1 := Lib.hid (fun u (h : Below W0.heap.size W0 u) => ((below_call AW h).cell (p := ⟨a1, o1 + 1, none⟩) la).trans k1)
      have HL0 := Lib.hid (fun u (h : Below W0.heap.size W0 u) => ho_lasts (some ⟨g0, 0, none⟩) n n (soM os a) false u (HV0.out.below (below_call AW h)) hn)
      have HL1 := Lib.hid (fun u (h : Below W0.heap.size W0 u) => ho_lasts (some ⟨g1, 0, none⟩) n n (soM os b) true u (HV1.out.below (below_call AW h)) hn)
      clear A5 c5 k0 k1 HV0 HV1
      obtain ⟨cs, hcs⟩ : ∃ cs : Nat → Value, (fun i => match i with
        | 0 => .slice (some ⟨a1, o1, none⟩) 2 c1
        | 1 => .pointer (some ⟨a1, o1, none⟩)
        | 2 => .slice (some ⟨g0, 0, none⟩) n n
        | 4 => .slice (some ⟨a1, o1, none⟩) 2 c1
        | 5 => .pointer (some ⟨a1, o1 + 1, none⟩)
        | 6 => .slice (some ⟨g1, 0, none⟩) n n
        | _ => undef) = cs := ⟨_, rfl⟩
      have e0 : cs 0 = .slice (some ⟨a1, o1, none⟩) 2 c1 := by rw [← hcs]; rfl
      have e1 : cs 1 = .pointer (some ⟨a1, o1, none⟩) := by rw [← hcs]; rfl
      have e2 : cs 2 = .slice (some ⟨g0, 0, none⟩) n n := by rw [← hcs]; rfl
      have e4 : cs 4 = .slice (some ⟨a1, o1, none⟩) 2 c1 := by rw [← hcs]; rfl
      have e5 : cs 5 = .pointer (some ⟨a1, o1 + 1, none⟩) := by rw [← hcs]; rfl
      have e6 : cs 6 = .slice (some ⟨g1, 0, none⟩) n n := by rw [← hcs]; rfl
      clear hcs
      have zb : ∀ x y : Addr, x.add 0 = x := fun x y => rfl
      refine wp_region_looseS 12 101 (by as_aux_lemma => kernel_rfl) (by as_aux_lemma => kernel_rfl) rfl (fun w w' => Below W0.heap.size w w') (fun w => Below.refl _ _) (fun a b c h g => Below.trans h g)
        (looseD snP cs) (snG W0.heap.size n (snF (soM os a) (soM os b))) (looseD_stable snP_stable) (fun L L' V V' w h1 h2 h3 => snG_congr h1 (fun i hi h => by match i, hi with | 0, _ => exact h2 3 h (by decide +kernel) | 1, _ => exact h2 7 h (by decide +kernel)) (fun i hi h => by match i, hi with | 0, _ => exact h2 8 h (by decide +kernel) | 1, _ => exact h2 9 h (by decide +kernel)) h3) snG_first ?_ ?_
      · simp only [List.take_succ_cons, List.take_zero]
        refine looseSAll_cons (k := 1) rfl (fun ac u L hE hev hkn hLi hG => ?_) ?_
        · have kc : ∀ c, ac.eval (.const c) = c := fun _ => rfl
          have hE2 : Below W0.heap.size W0 u := ((Below.refl W0.heap.size W0).drew).trans (hE.mono (Nat.le_refl _))
          have su := hE2.size
          have t5 : ac.eval (.tmp 5) = .pointer (some ⟨p + 1, 0, none⟩) := hev 5 (by kernel_rfl)
          have cc := HC5.out u hE2
          exact loose_val rfl (v := .slice (some ⟨a1, o1, none⟩) 2 c1) (by generalize ac.eval = ev at *; simp [go_sem, kc, t5, cc]) ⟨Below.refl _ _, e0.symm, snG_same (by omega) (by omega) (Below.refl _ _) hG⟩
        refine looseSAll_cons (k := 2) rfl (fun ac u L hE hev hkn hLi hG => ?_) ?_
        · have kc : ∀ c, ac.eval (.const c) = c := fun _ => rfl
          have hE2 : Below W0.heap.size W0 u := ((Below.refl W0.heap.size W0).drew).trans (hE.mono (Nat.le_refl _))
          have su := hE2.size
          have t1 : ac.eval (.tmp 88) = _ := ((hkn 0 (by kernel_rfl)).2 (by decide +kernel) : ac.eval (.tmp 88) = cs 0).trans e0
          exact loose_val rfl (v := .pointer (some ⟨a1, o1, none⟩)) (by generalize ac.eval = ev at *; simp [go_sem, kc, t1]) ⟨Below.refl _ _, e1.symm, snG_same (by omega) (by omega) (Below.refl _ _) hG⟩
        refine looseSAll_cons (k := 3) rfl (fun ac u L hE hev hkn hLi hG => ?_) ?_
        · have kc : ∀ c, ac.eval (.const c) = c := fun _ => rfl
          have hE2 : Below W0.heap.size W0 u := ((Below.refl W0.heap.size W0).drew).trans (hE.mono (Nat.le_refl _))
          have su := hE2.size
          have t1 : ac.eval (.tmp 89) = _ := ((hkn 1 (by kernel_rfl)).2 (by decide +kernel) : ac.eval (.tmp 89) = cs 1).trans e1
          have cc := HK0.out u hE2
          exact loose_val rfl (v := .slice (some ⟨g0, 0, none⟩) n n) (by generalize ac.eval = ev at *; simp [go_sem, kc, t1, cc]) ⟨Below.refl _ _, e2.symm, snG_same (by omega) (by omega) (Below.refl _ _) hG⟩
        refine looseSAll_cons (k := 4) rfl (fun ac u L hE hev hkn hLi hG => ?_) ?_
        · have kc : ∀ c, ac.eval (.const c) = c := fun _ => rfl
          have hE2 : Below W0.heap.size W0 u := ((Below.refl W0.heap.size W0).drew).trans (hE.mono (Nat.le_refl _))
          have su := hE2.size
          have t1 : ac.eval (.tmp 90) = _ := ((hkn 2 (by kernel_rfl)).2 (by decide +kernel) : ac.eval (.tmp 90) = cs 2).trans e2
          have kf : ∀ f, ac.eval (.func f) = .func (.func f) #[] #[] := fun _ => rfl
          exact loose_call rfl (by generalize ac.eval = ev at *; simp [go_sem, kc, kf, t1]) ((HL0.out u hE2).mono fun e w' ⟨g, h1, h2, h3, h4⟩ => ⟨_, h1, h4.mono su, trivial, snG_call (k := 0) (by omega) su hLi h2 h3 h4 hG⟩)
        refine looseSAll_cons (k := 5) rfl (fun ac u L hE hev hkn hLi hG => ?_) ?_
        · have kc : ∀ c, ac.eval (.const c) = c := fun _ => rfl
          have hE2 : Below W0.heap.size W0 u := ((Below.refl W0.heap.size W0).drew).trans (hE.mono (Nat.le_refl _))
          have su := hE2.size
          have t5 : ac.eval (.tmp 5) = .pointer (some ⟨p + 1, 0, none⟩) := hev 5 (by kernel_rfl)
          have cc := HC5.out u hE2
          exact loose_val rfl (v := .slice (some ⟨a1, o1, none⟩) 2 c1) (by generalize ac.eval = ev at *; simp [go_sem, kc, t5, cc]) ⟨Below.refl _ _, e4.symm, snG_same (by omega) (by omega) (Below.refl _ _) hG⟩
        refine looseSAll_cons (k := 6) rfl (fun ac u L hE hev hkn hLi hG => ?_) ?_
        · have kc : ∀ c, ac.eval (.const c) = c := fun _ => rfl
          have hE2 : Below W0.heap.size W0 u := ((Below.refl W0.heap.size W0).drew).trans (hE.mono (Nat.le_refl _))
          have su := hE2.size
          have t1 : ac.eval (.tmp 92) = _ := ((hkn 4 (by kernel_rfl)).2 (by decide +kernel) : ac.eval (.tmp 92) = cs 4).trans e4
          exact loose_val rfl (v := .pointer (some ⟨a1, o1 + 1, none⟩)) (by generalize ac.eval = ev at *; simp [go_sem, kc, t1]) ⟨Below.refl _ _, e5.symm, snG_same (by omega) (by omega) (Below.refl _ _) hG⟩
        refine looseSAll_cons (k := 7) rfl (fun ac u L hE hev hkn hLi hG => ?_) ?_
        · have kc : ∀ c, ac.eval (.const c) = c := fun _ => rfl
          have hE2 : Below W0.heap.size W0 u := ((Below.refl W0.heap.size W0).drew).trans (hE.mono (Nat.le_refl _))
          have su := hE2.size
          have t1 : ac.eval (.tmp 93) = _ := ((hkn 5 (by kernel_rfl)).2 (by decide +kernel) : ac.eval (.tmp 93) = cs 5).trans e5
          have cc := HK1.out u hE2
          exact loose_val rfl (v := .slice (some ⟨g1, 0, none⟩) n n) (by generalize ac.eval = ev at *; simp [go_sem, kc, t1, cc]) ⟨Below.refl _ _, e6.symm, snG_same (by omega) (by omega) (Below.refl _ _) hG⟩
        refine looseSAll_cons (k := 8) rfl (fun ac u L hE hev hkn hLi hG => ?_) ?_
        · have kc : ∀ c, ac.eval (.const c) = c := fun _ => rfl
          have hE2 : Below W0.heap.size W0 u := ((Below.refl W0.heap.size W0).drew).trans (hE.mono (Nat.le_refl _))
          have su := hE2.size
          have t1 : ac.eval (.tmp 94) = _ := ((hkn 6 (by kernel_rfl)).2 (by decide +kernel) : ac.eval (.tmp 94) = cs 6).trans e6
          have kf : ∀ f, ac.eval (.func f) = .func (.func f) #[] #[] := fun _ => rfl
          exact loose_call rfl (by generalize ac.eval = ev at *; simp [go_sem, kc, kf, t1]) ((HL1.out u hE2).mono fun e w' ⟨g, h1, h2, h3, h4⟩ => ⟨_, h1, h4.mono su, trivial, snG_call (k := 1) (by omega) su hLi h2 h3 h4 hG⟩)
        refine looseSAll_cons (k := 9) rfl (fun ac u L hE hev hkn hLi hG => ?_) ?_
        · have kc : ∀ c, ac.eval (.const c) = c := fun _ => rfl
          have hE2 : Below W0.heap.size W0 u := ((Below.refl W0.heap.size W0).drew).trans (hE.mono (Nat.le_refl _))
          have su := hE2.size
          exact loose_val rfl (v := .pointer (some ⟨u.heap.size, 0, none⟩)) (w' := u.alloc (.cells #[.slice none 0 0] 49)) (by generalize ac.eval = ev at *; simp [go_sem, kc]) ⟨(Below.refl _ u).alloc su _, trivial, snG_alloc (k := 0) (by omega) su hLi hG⟩
        refine looseSAll_cons (k := 10) rfl (fun ac u L hE hev hkn hLi hG => ?_) ?_
        · have kc : ∀ c, ac.eval (.const c) = c := fun _ => rfl
          have hE2 : Below W0.heap.size W0 u := ((Below.refl W0.heap.size W0).drew).trans (hE.mono (Nat.le_refl _))
          have su := hE2.size
          exact loose_val rfl (v := .pointer (some ⟨u.heap.size, 0, none⟩)) (w' := u.alloc (.cells #[.slice none 0 0] 49)) (by generalize ac.eval = ev at *; simp [go_sem, kc]) ⟨(Below.refl _ u).alloc su _, trivial, snG_alloc (k := 1) (by omega) su hLi hG⟩
        refine looseSAll_cons (k := 11) rfl (fun ac u L hE hev hkn hLi hG => ?_) ?_
        · have kc : ∀ c, ac.eval (.const c) = c := fun _ => rfl
          have hE2 : Below W0.heap.size W0 u := ((Below.refl W0.heap.size W0).drew).trans (hE.mono (Nat.le_refl _))
          have su := hE2.size
          obtain ⟨g, q, t1, t2, zq, BX, hst⟩ := snG_get (k := 0) (by omega) (hkn 3 (by kernel_rfl)).1 (hkn 8 (by kernel_rfl)).1 hLi hG
          have t1 : ac.eval (.tmp 91) = .slice (some ⟨g, 0, none⟩) n n := t1
          have t2 : ac.eval (.tmp 18) = .pointer (some ⟨q, 0, none⟩) := t2
          obtain ⟨cg, fg, lg⟩ := BX.one
          have fg := fg 0
          exact loose_store rfl rfl (w' := u.setCell ⟨q, 0, none⟩ (.slice (some ⟨g, 0, none⟩) n n)) (by generalize ac.eval = ev at *; simp [go_sem, kc, t1, t2, cg, fg, lg]) ⟨(Below.refl _ u).setCell zq _, trivial, hst⟩
        refine looseSAll_cons (k := 12) rfl (fun ac u L hE hev hkn hLi hG => ?_) ?_
        · have kc : ∀ c, ac.eval (.const c) = c := fun _ => rfl
          have hE2 : Below W0.heap.size W0 u := ((Below.refl W0.heap.size W0).drew).trans (hE.mono (Nat.le_refl _))
          have su := hE2.size
          obtain ⟨g, q, t1, t2, zq, BX, hst⟩ := snG_get (k := 1) (by omega) (hkn 7 (by kernel_rfl)).1 (hkn 9 (by kernel_rfl)).1 hLi hG
          have t1 : ac.eval (.tmp 95) = .slice (some ⟨g, 0, none⟩) n n := t1
          have t2 : ac.eval (.tmp 19) = .pointer (some ⟨q, 0, none⟩) := t2
          obtain ⟨cg, fg, lg⟩ := BX.one
          have fg := fg 0
          exact loose_store rfl rfl (w' := u.setCell ⟨q, 0, none⟩ (.slice (some ⟨g, 0, none⟩) n n)) (by generalize ac.eval = ev at *; simp [go_sem, kc, t1, t2, cg, fg, lg]) ⟨(Below.refl _ u).setCell zq _, trivial, hst⟩
        exact looseSAll_nil
      · intro ac u hE hN hdf hO hD hG
        have hE2 : Below W0.heap.size W0 u := ((Below.refl W0.heap.size W0).drew).trans (hE.mono (Nat.le_refl _))
        obtain ⟨gl, gr, qa, qb, f91, f95, f18, f19, HLa, HLb⟩ := snG_last hG
        have f91 : ac.eval (.tmp 91) = .slice (some ⟨gl, 0, none⟩) n n := f91
        have f95 : ac.eval (.tmp 95) = .slice (some ⟨gr, 0, none⟩) n n := f95
        have f18 : ac.eval (.tmp 18) = .pointer (some ⟨qa, 0, none⟩) := f18
        have f19 : ac.eval (.tmp 19) = .pointer (some ⟨qb, 0, none⟩) := f19
        have f88 : ac.eval (.tmp 88) = _ := (hD 0 (by omega) (by decide +kernel)).trans e0
        have f89 : ac.eval (.tmp 89) = _ := (hD 1 (by omega) (by decide +kernel)).trans e1
        have f90 : ac.eval (.tmp 90) = _ := (hD 2 (by omega) (by decide +kernel)).trans e2
        have f92 : ac.eval (.tmp 92) = _ := (hD 4 (by omega) (by decide +kernel)).trans e4
        have f93 : ac.eval (.tmp 93) = _ := (hD 5 (by omega) (by decide +kernel)).trans e5
        have f94 : ac.eval (.tmp 94) = _ := (hD 6 (by omega) (by decide +kernel)).trans e6
        rw [act_puts [(88, _), (89, _), (90, _), (91, _), (92, _), (93, _), (94, _), (95, _), (18, _), (19, _)] 101 hN rfl hdf (by
          intro x hx
          simp only [List.mem_cons, List.mem_nil_iff, or_false] at hx
          rcases hx with rfl | rfl | rfl | rfl | rfl | rfl | rfl | rfl | rfl | rfl
          · exact tmps_at hN (by omega) f88
          · exact tmps_at hN (by omega) f89
          · exact tmps_at hN (by omega) f90
          · exact tmps_at hN (by omega) f91
          · exact tmps_at hN (by omega) f92
          · exact tmps_at hN (by omega) f93
          · exact tmps_at hN (by omega) f94
          · exact tmps_at hN (by omega) f95
          · exact tmps_at hN (by omega) f18
          · exact tmps_at hN (by omega) f19) hO (by as_aux_lemma => kernel_rfl)]
        clear hO hD hG hN hdf f88 f89 f90 f91 f92 f93 f94 f95 f18 f19 e0 e1 e2 e4 e5 e6
        have A8 : Below wr.heap.size wr u := below_call AW hE2
        have c3u := (A8.cell (p := ⟨p, 0, none⟩) l3).trans c3
        have l3u : p < u.heap.size := by have := A8.size; omega
        have HLA := Lib.hid HLa
        have HLB := Lib.hid HLb
        clear HLa HLb hE hE2
        simp only [List.foldl, Act.put, List.setIfInBounds_toArray, List.set_cons_zero, List.set_cons_succ]
        change wpList _ _ _ [] _ _
        go_wp2_with (fail)
        refine (ho_each 38 #[.pointer (some ⟨qb, 0, none⟩), .pointer (some ⟨qa, 0, none⟩)] (enters_of Try.func38 (by kernel_rfl) rfl) (soM os (.since a b)) B n d _ hn (fun W k hk hb => ?_)).mono ?_
        · exact tr_since qb qa n k _ _ W hk (HLB.out.below hb) (HLA.out.below hb)
        rintro e w6 ⟨g5, rfl, C5, hg5, hb5⟩
        have HX := Lib.hid (show Col w6 g5 n (fun i => .bool (soM os (.since a b) i)) ∧ w.heap.size ≤ g5 ∧ Below w.heap.size w w6 from ⟨C5, by have := A8.size; omega, Br.trans ((below_call A8 hb5).mono hsz)⟩)
        clear C5 hg5 hb5 A8
        go_wp2_with (fail)
        all_goals go_ret
        all_goals exact ⟨g5, rfl, HX.out⟩
end Go.Proofs.Ytmemhlhjkpijpaa
