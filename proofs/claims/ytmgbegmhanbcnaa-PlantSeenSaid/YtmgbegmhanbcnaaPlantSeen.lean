/- PlantSeen holds of every list of openings, every height and every set: an eye sees each drop that falls, in the tick behind. No condition. -/
import Derived.Test.YtmgbegmhanbcnaaSeenN
import Derived.Test.YtmgbegmhanbcnaaPlantS
import Derived.Test.YtmgbegmhanbcnaaRef48
import Derived.Test.YtmgbegmhanbcnaaLaw23
import Derived.Test.YtmgbegmhanbcnaaNums
import Derived.Test.YtmgbegmhanbcnaaTri
import Derived.Deep.DeepCutAuto
import Derived.Deep.CutBlock
import Derived.Deep.LoopGhost
namespace Go.Proofs.Ytmgbegmhanbcnaa.plantSeen
open Go.ChangeShapes Go.WideShapes Go.ChangeAt Go.RowKit
set_option linter.unusedVariables false
set_option linter.unusedSimpArgs false
set_option maxRecDepth 100000
attribute [local go_sem] cell_set_ite Near.cell Near.frozen

theorem same_intsB {A B : Option Addr} {n m c d : Nat} {xs : List Int} {w : World} (h : Ints w A n xs) (g : Ints w B m xs) (hn : n ≤ 100000) (hm : m ≤ 100000) :
    Calls Try.prog 7 #[.slice A n c, .slice B m d] w fun e w' => e = .returned (.bool true) ∧ Below w.heap.size w w' := by
  have hq := law4_ints A B n c m d xs xs w h g (by omega) (by omega)
  rw [eqL_refl] at hq
  exact hq.mono fun _ _ ⟨he, t, hw⟩ => ⟨he, hw ▸ below_drewN (Below.refl _ _) t⟩
theorem far_own {w : World} {base e n sz : Nat} {v : Value} {cs : List Value} (h : w.ownsRow base e sz v n cs) {p : Addr} (hp : v.ownBlock ≠ some p.block) (x : Value) : (w.setCell p x).ownsRow base e sz v n cs := by
  refine ⟨h.1, ?_⟩
  rcases h.2 with h2 | ⟨g, cap, cur, hv, hg, hh, r⟩
  · exact .inl h2
  · refine .inr ⟨g, cap, cur, hv, hg, ?_, r⟩
    rw [heap_setCell_other w p g x (fun e => hp (by rw [hv]; exact congrArg some e))]
    exact hh
/-- Two lists that grow side by side, and a plant beside them. -/
structure Pair (w wr : World) (g : Nat) (va vb : Value) (L M : List Int) (cs : Array Value) : Prop where
  a : wr.ownsRow w.heap.size 3 1 va L.length (L.map (Value.int .i64))
  b : wr.ownsRow w.heap.size 3 1 vb M.length (M.map (Value.int .i64))
  ab : Ap va vb
  box : Box wr g cs
  ag : va.ownBlock ≠ some g
  bg : vb.ownBlock ≠ some g
  bel : Below w.heap.size w wr
namespace Pair
variable {w wr w1 : World} {g : Nat} {va vb : Value} {L M : List Int} {cs : Array Value}
theorem start (h : Box wr g cs) (hb : Below w.heap.size w wr) : Pair w wr g (.slice none 0 0) (.slice none 0 0) [] [] cs :=
  ⟨World.ownsRow_nil _ _ _ _, World.ownsRow_nil _ _ _ _, (fun g h => nomatch h), h, (fun h => nomatch h), (fun h => nomatch h), hb⟩
theorem below (h : Pair w wr g va vb L M cs) (hb : Below wr.heap.size wr w1) : Pair w w1 g va vb L M cs := by
  have hl : ∀ {e sz n v cs}, wr.ownsRow w.heap.size e sz v n cs → w1.ownsRow w.heap.size e sz v n cs := fun {e sz n v cs} h => by
    refine ⟨h.1, ?_⟩
    rcases h.2 with h2 | ⟨g, cap, cur, hv, hg, hh, r⟩
    · exact .inl h2
    · exact .inr ⟨g, cap, cur, hv, hg, by rw [hb.block g (Array.getElem?_eq_some_iff.1 hh).1]; exact hh, r⟩
  exact ⟨hl h.a, hl h.b, h.ab, h.box.below hb, h.ag, h.bg, Below.trans h.bel (hb.mono h.bel.size)⟩
theorem store (h : Pair w wr g va vb L M cs) (hg : w.heap.size ≤ g) {i : Nat} (hi : i < cs.size) (x : Value) : Pair w (wr.setCell ⟨g, i, none⟩ x) g va vb L M (cs.setIfInBounds i x) :=
  ⟨far_own h.a h.ag x, far_own h.b h.bg x, h.ab, h.box.set hi x, h.ag, h.bg, below_set_on h.bel hg x⟩
theorem four {v0 v1 v2 v3 : Value} (h : Pair w wr g va vb L M #[v0, v1, v2, v3]) (hg : w.heap.size ≤ g) (u0 u1 u2 u3 : Value) :
    Pair w ((((wr.setCell ⟨g, 0, none⟩ u0).setCell ⟨g, 1, none⟩ u1).setCell ⟨g, 2, none⟩ u2).setCell ⟨g, 3, none⟩ u3) g va vb L M #[u0, u1, u2, u3] := by
  have := (((h.store hg (i := 0) (by simp) u0).store hg (i := 1) (by simp) u1).store hg (i := 2) (by simp) u2).store hg (i := 3) (by simp) u3
  simpa using this
theorem a_next {va' : Value} {x : Int} {o : Obj} (h : Pair w wr g va vb L M cs) (ho : w1.ownsRow w.heap.size 3 1 va' (L.length + 1) (L.map (Value.int .i64) ++ [.int .i64 x])) (hg : (wr.alloc o).grownBy w1 va.ownBlock) (ha : va'.ownBlock = va.ownBlock ∨ va'.ownBlock = some (wr.heap.size + 1)) :
    Pair w w1 g va' vb (L ++ [x]) M cs :=
  ⟨by simpa using ho, (h.b.alloc o).kept hg h.ab.symm.ne, (h.ab.symm.moved ha (fun g hg => by have := (h.b.lt g hg).2; omega)).symm, Box.grown (w := w) h.box h.ag hg, moved_ne h.ag ha (by have := h.box.1; omega), h.bg, Tri.bel_next h.bel h.a hg⟩
theorem b_next {vb' : Value} {x : Int} {o : Obj} (h : Pair w wr g va vb L M cs) (ho : w1.ownsRow w.heap.size 3 1 vb' (M.length + 1) (M.map (Value.int .i64) ++ [.int .i64 x])) (hg : (wr.alloc o).grownBy w1 vb.ownBlock) (ha : vb'.ownBlock = vb.ownBlock ∨ vb'.ownBlock = some (wr.heap.size + 1)) :
    Pair w w1 g va vb' L (M ++ [x]) cs :=
  ⟨(h.a.alloc o).kept hg h.ab.ne, by simpa using ho, h.ab.moved ha (fun g hg => by have := (h.a.lt g hg).2; omega), Box.grown (w := w) h.box h.bg hg, h.ag, moved_ne h.bg ha (by have := h.box.1; omega), Tri.bel_next h.bel h.b hg⟩
end Pair
/-- How much longer it is shaded, T ticks behind the fall. -/
def shS (T : Nat) : Int := if T = 1 then 2 else if T = 2 then 1 else 0
theorem shS_bd (T : Nat) : 0 ≤ shS T ∧ shS T ≤ 2 := by
  unfold shS
  repeat' split
  all_goals omega
theorem plX_form (L P S s o h : Int) : plX L P S s o h = if plS1 L P S s o h ≤ 0 then 3000 else 2000 := rfl
theorem plS_form (L P S s o h : Int) : plS L P S s o h = if plS1 L P S s o h ≤ 0 then plS1 L P S s o h else plS1 L P S s o h - 1 := rfl

/-- A tick in which nothing falls; one in which a drop does. -/
theorem tick {L P F s o h : Int} {T : Nat} (hU : 6000000 ≤ unV s ∧ unV s ≤ 36000000) (p0 : 0 ≤ P) (p1 : P < unV s) (L0 : 1 ≤ L) (F0 : 0 ≤ F) (F1 : F ≤ 1000) (hfw : 8 * fwV o h ≤ unV s) (t1 : 1 ≤ T) (hP : 8 * P < unV s * (T : Int)) :
    (plL L P s o h = L ∧ ∃ P2, plP L P s o h = P2 ∧ plS L P (shS T) s o h = shS (T + 1) ∧ plF L P F s o h = F ∧ plX L P (shS T) s o h = (if T ≤ 2 then 2000 else 3000) ∧ 0 ≤ P2 ∧ P2 < unV s ∧ 8 * P2 < unV s * ((T + 1 : Nat) : Int)) ∨
    (plL L P s o h = L - 1 ∧ ∃ P2, plP L P s o h = P2 ∧ plS L P (shS T) s o h = shS 1 ∧ plF L P F s o h = F + 1 ∧ plX L P (shS T) s o h = 2000 ∧ 0 ≤ P2 ∧ P2 < unV s ∧ 8 * P2 < unV s * ((1 : Nat) : Int) ∧ 8 ≤ T ∧ 0 < P) := by
  have ⟨f0, f1⟩ := fw_bd o h
  have hw : plW L s = true := decide_eq_true ⟨by omega, by omega⟩
  have hm : unV s * ((T + 1 : Nat) : Int) = unV s * (T : Int) + unV s := by rw [Int.natCast_add, Int.mul_add]; simp
  rcases pl_ways L P (shS T) F s o h with ⟨k, _⟩ | ⟨k, q, e1, e2, e3, e4⟩ | ⟨k, q, e1, e2, e3, e4⟩
  · rw [hw] at k; cases k
  · rw [show min (max P 0) (unV s) = P by omega] at q e2
    refine .inl ⟨e1, _, e2, ?_, e4, ?_, by omega, by omega, by omega⟩
    · rw [plS_form, e3]; unfold shS; repeat' split
      all_goals omega
    · rw [plX_form, e3]; unfold shS; repeat' split
      all_goals omega
  · rw [show min (max P 0) (unV s) = P by omega] at q e2
    rw [show min (max F 0) 1099511627776 = F by omega] at e4
    have t8 : 8 ≤ T := by
      rcases Nat.lt_or_ge T 8 with hlt | hge
      · exfalso
        have h7 : unV s * (T : Int) ≤ unV s * 7 := Int.mul_le_mul_of_nonneg_left (by omega) (by omega)
        omega
      · exact hge
    refine .inr ⟨e1, _, e2, ?_, e4, ?_, by omega, by omega, by omega, t8, by omega⟩
    · rw [plS_form, e3]; rfl
    · rw [plX_form, e3]; rfl

set_option maxHeartbeats 4000000 in
theorem some_ (W : World) (A : Option Addr) (n c : Nat) (xs : List Int) (hi : Nums .u16 W A n xs) (hc : n ≤ c) (hn : n ≤ 400) (hx : ∀ j : Nat, j < n → 0 ≤ xs.getD j 0 ∧ xs.getD j 0 ≤ 65535) (h : Int) (h0 : 0 ≤ h) (h1 : h ≤ 65535) (k : Nat) (hk : k < 256) :
    Calls Try.prog 4 #[.slice A n c, .int .u16 h, .int .u8 k] W fun e W' => e = .returned (.bool true) ∧ Below W.heap.size W W' := by
  have HI := Lib.hid hi
  have HX := Lib.hid hx
  have A0 : Below W.heap.size W W := Below.refl _ _
  have HS := Lib.hid (fun w => law9_set k hk w)
  have hf : knB (setV k) = true := by
    have := set_kn k
    simpa [knB, Kn] using this
  generalize setV k = s at *
  have hU : 6000000 ≤ unV s ∧ unV s ≤ 36000000 := by
    rcases un_ways s with ⟨e, _⟩ | ⟨_, u0, u1, _⟩
    · rw [hf] at e; cases e
    · exact ⟨u0, u1⟩
  have t0 : decide (400 < (n : Int)) = false := decide_eq_false (by omega)
  clear hi hx hf
  go_enter Try.func4, Try.ntmps4
  go_wp2_with (go_at_call 19; refine (HS.out _).mono ?_; rintro e w' ⟨rfl, rfl⟩)
  have A2 := below_alloc_on A0 (.cells #[.int .i64 1000000, .int .i64 0, .int .i64 0, .int .i64 0] 37)
  have P2 := box_new W #[.int .i64 1000000, .int .i64 0, .int .i64 0, .int .i64 0] 37
  have hg : W.heap.size ≤ W.heap.size := Nat.le_refl _
  generalize W.alloc (.cells #[.int .i64 1000000, .int .i64 0, .int .i64 0, .int .i64 0] 37) = w2 at *
  obtain ⟨g, hge⟩ : ∃ g, W.heap.size = g := ⟨_, rfl⟩
  have hgg : W.heap.size ≤ g := by omega
  rw [hge] at P2
  simp only [hge]
  clear A0 HS hg hge
  go_loopg [9, 10, 25] n (fun q x y i wr => ∃ (j T : Nat) (L P F : Int) (Ls FL : List Int), j ≤ n ∧ q = n - j ∧ i = .int .i64 j ∧ 0 ≤ P ∧ P < unV s ∧ 0 ≤ F ∧ F ≤ j ∧ 1000000 - j ≤ L ∧ L ≤ 1000000 ∧ 1 ≤ T ∧ Hid (8 * P < unV s * (T : Int)) ∧ (j = 0 → P = 0) ∧ Seen Ls FL j n T ∧ FL.length ≤ j ∧ Pair W wr g x y Ls FL #[.int .i64 L, .int .i64 P, .int .i64 (shS T), .int .i64 F])
  case atStart => exact ⟨0, 8, 1000000, 0, 0, [], [], Nat.zero_le _, rfl, rfl, by omega, by omega, by omega, by omega, by omega, by omega, by omega, Lib.hid (by omega), fun _ => rfl, Seen.start n, by simp, Pair.start P2 A2⟩
  case round =>
    clear A2 P2
    obtain ⟨j, T, L, P, F, Ls, FL, hj, rfl, rfl, p0, p1, F0, F1, L0, L1, t1, hp8, hP0, hseen, hfl, hpair⟩ := hrel
    by_cases hlt : j < n
    · obtain ⟨b, off, rfl, hbs, hcell⟩ := HI.out.at_ hlt
      obtain ⟨x0, x1⟩ := HX.out j hlt
      have hck := (hpair.bel.cell (p := ⟨b, off + j, none⟩) hbs).trans hcell
      have HP := Lib.hid hpair
      have HN := Lib.hid hseen
      have hll : Ls.length ≤ 17592186044414 := by have := hseen.len; omega
      have hfl2 : FL.length ≤ 17592186044414 := by omega
      clear hcell hpair hseen
      generalize xs.getD j 0 = x at *
      have ⟨f0, f1⟩ := fw_bd x h
      have ix : IntKind.i64.wrap x = x := IntWalk.i64_in _ (by omega)
      have ih : IntKind.i64.wrap h = h := IntWalk.i64_in _ (by omega)
      have HF := Lib.hid (fun w => pl_flow x h w)
      have HU := Lib.hid (fun w => pl_unit s w)
      have hZ : fwV 0 h = 0 := by unfold fwV; rw [show min (max (0 : Int) 0) 300 = 0 from by decide]; simp
      obtain ⟨o, ho, hfo⟩ : ∃ o, (if unV s < 8 * fwV x h then 0 else x) = o ∧ 8 * fwV o h ≤ unV s := ⟨_, rfl, by
        split
        · rw [hZ]; omega
        · omega⟩
      have HST := Lib.hid (fun w => pl_step L P (shS T) F o h s (by omega) (by have := shS_bd T; omega) w)
      have HTK := Lib.hid (tick (L := L) (F := F) (o := o) (h := h) hU p0 p1 (by omega) F0 (by omega) hfo t1 hp8.out)
      have w8 : IntKind.i64.wrap (8 * fwV x h) = 8 * fwV x h := IntWalk.i64_in _ (by omega)
      clear hZ HI HX hfo hp8
      generalize fwV x h = G at *
      have hUe : ∃ U, unV s = U := ⟨_, rfl⟩
      obtain ⟨cB0, cB1, cB2, cB3, fB, lB⟩ := HP.out.box.four
      by_cases hov : unV s < 8 * G
      · rw [if_pos hov] at ho
        subst ho
        have t5 := decide_eq_true hov
        clear hov
        rcases HTK.out with ⟨e0, Pn, e1, e2, e3, e4, q0, q1, q2⟩ | ⟨e0, Pn, e1, e2, e3, e4, q0, q1, q2, t8, pp⟩
        · have hn2 := Lib.hid e4
          rw [e0, e1, e2, e3] at HST
          generalize plX L P (shS T) s 0 h = X at *
          have HN2 := Lib.hid (HN.out.next hlt e4)
          have t6 : decide (F < F) = false := decide_eq_false (by omega)
          clear e0 e1 e2 e3 e4 HTK hn2 HN
          go_wp2_with (first | (go_at_call 20; refine (HF.out _).mono ?_; rintro e w' ⟨rfl, rfl⟩) | (go_at_call 21; refine (HU.out _).mono ?_; rintro e w' ⟨rfl, rfl⟩))
          refine (HST.out _).mono ?_
          rintro e w3 ⟨rfl, hb⟩
          obtain ⟨d0, d1, d2, d3, fD, lD⟩ := (HP.out.below hb).box.four
          have HP4 := Lib.hid ((HP.out.below hb).four hgg (.int .i64 L) (.int .i64 Pn) (.int .i64 (shS (T + 1))) (.int .i64 F))
          clear hb hck cB0 cB1 cB2 cB3 fB lB HP HF HU HST
          go_upto_region 14 with (fail)
          generalize (((w3.setCell ⟨g, 0, none⟩ (.int .i64 L)).setCell ⟨g, 1, none⟩ (.int .i64 Pn)).setCell ⟨g, 2, none⟩ (.int .i64 (shS (T + 1)))).setCell ⟨g, 3, none⟩ (.int .i64 F) = w4 at *
          clear d0 d1 d2 d3 fD lD
          have hsz := HP4.out.bel.size
          go_wp2_with (at_builtin; refine app_int_at rfl _ _ rfl _ rfl rfl HP4.out.a hsz hll ?_)
          intro va w5 h1 h2 h3
          have HP5 := Lib.hid (HP4.out.a_next h1 h2 h3)
          obtain ⟨d0, d1, d2, d3, fD, lD⟩ := HP5.out.box.four
          clear h1 h2 h3 HP4 hsz
          go_wp2
          go_roundg (n - (j + 1))
          case measure => omega
          case rel => exact ⟨j + 1, T + 1, L, Pn, F, Ls ++ [X], FL, by omega, by omega, by go_num, q0, q1, by omega, by omega, by omega, by omega, by omega, Lib.hid q2, fun h => absurd h (by omega), HN2.out, by omega, HP5.out⟩
        · have j0 : 0 < j := by
            rcases Nat.eq_zero_or_pos j with e | e
            · have := hP0 e; omega
            · exact e
          rw [e0, e1, e2, e3] at HST
          generalize plX L P (shS T) s 0 h = X at *
          have HN2 := HN.out.fall j0 t8 e4
          have t6 : decide (F < F + 1) = true := decide_eq_true (by omega)
          have wj : IntKind.i64.wrap ((j : Int) + 1) = (j : Int) + 1 := IntWalk.i64_in _ (by omega)
          rw [show ((j + 1 : Nat) : Int) = (j : Int) + 1 from rfl] at HN2
          clear e0 e1 e2 e3 e4 HTK HN
          obtain ⟨L2, hL2⟩ : ∃ L2, L - 1 = L2 := ⟨_, rfl⟩
          obtain ⟨F2, hF2⟩ : ∃ F2, F + 1 = F2 := ⟨_, rfl⟩
          rw [hL2, hF2] at HST
          rw [hF2] at t6
          have l20 : 1000000 - ((j + 1 : Nat) : Int) ≤ L2 ∧ L2 ≤ 1000000 := by omega
          have f20 : 0 ≤ F2 ∧ F2 ≤ ((j + 1 : Nat) : Int) := by omega
          clear hL2 hF2
          by_cases hjn : j + 1 < n
          · rw [if_pos hjn] at HN2
            have HN3 := Lib.hid HN2
            have t7 : decide ((j : Int) + 1 < (n : Int)) = true := decide_eq_true (by omega)
            clear HN2
            go_wp2_with (first | (go_at_call 20; refine (HF.out _).mono ?_; rintro e w' ⟨rfl, rfl⟩) | (go_at_call 21; refine (HU.out _).mono ?_; rintro e w' ⟨rfl, rfl⟩))
            refine (HST.out _).mono ?_
            rintro e w3 ⟨rfl, hb⟩
            obtain ⟨d0, d1, d2, d3, fD, lD⟩ := (HP.out.below hb).box.four
            have HP4 := Lib.hid ((HP.out.below hb).four hgg (.int .i64 L2) (.int .i64 Pn) (.int .i64 (shS 1)) (.int .i64 F2))
            clear hb hck cB0 cB1 cB2 cB3 fB lB HP HF HU HST
            go_upto_region 14 with (fail)
            generalize (((w3.setCell ⟨g, 0, none⟩ (.int .i64 L2)).setCell ⟨g, 1, none⟩ (.int .i64 Pn)).setCell ⟨g, 2, none⟩ (.int .i64 (shS 1))).setCell ⟨g, 3, none⟩ (.int .i64 F2) = w4 at *
            clear d0 d1 d2 d3 fD lD
            have hsz := HP4.out.bel.size
            go_wp2_with (at_builtin; refine app_int_at rfl _ _ rfl _ rfl rfl HP4.out.a hsz hll ?_)
            intro va w5 h1 h2 h3
            have HP5 := Lib.hid (HP4.out.a_next h1 h2 h3)
            obtain ⟨d0, d1, d2, d3, fD, lD⟩ := HP5.out.box.four
            clear h1 h2 h3 HP4 hsz
            have hsz := HP5.out.bel.size
            go_wp2_with (at_builtin; refine app_int_at rfl _ _ rfl _ rfl rfl HP5.out.b hsz hfl2 ?_)
            intro vb w6 h1 h2 h3
            have HP6 := Lib.hid (HP5.out.b_next h1 h2 h3)
            clear h1 h2 h3 HP5 hsz d0 d1 d2 d3 fD lD
            go_wp2
            go_roundg (n - (j + 1))
            case measure => omega
            case rel => exact ⟨j + 1, 1, L2, Pn, F2, Ls ++ [X], FL ++ [(j : Int) + 1], by omega, by omega, by go_num, q0, q1, by omega, by omega, by omega, by omega, by omega, Lib.hid q2, fun h => absurd h (by omega), HN3.out, by simp; omega, HP6.out⟩
          · rw [if_neg hjn] at HN2
            have HN3 := Lib.hid HN2
            have t7 : decide ((j : Int) + 1 < (n : Int)) = false := decide_eq_false (by omega)
            clear HN2
            go_wp2_with (first | (go_at_call 20; refine (HF.out _).mono ?_; rintro e w' ⟨rfl, rfl⟩) | (go_at_call 21; refine (HU.out _).mono ?_; rintro e w' ⟨rfl, rfl⟩))
            refine (HST.out _).mono ?_
            rintro e w3 ⟨rfl, hb⟩
            obtain ⟨d0, d1, d2, d3, fD, lD⟩ := (HP.out.below hb).box.four
            have HP4 := Lib.hid ((HP.out.below hb).four hgg (.int .i64 L2) (.int .i64 Pn) (.int .i64 (shS 1)) (.int .i64 F2))
            clear hb hck cB0 cB1 cB2 cB3 fB lB HP HF HU HST
            go_upto_region 14 with (fail)
            generalize (((w3.setCell ⟨g, 0, none⟩ (.int .i64 L2)).setCell ⟨g, 1, none⟩ (.int .i64 Pn)).setCell ⟨g, 2, none⟩ (.int .i64 (shS 1))).setCell ⟨g, 3, none⟩ (.int .i64 F2) = w4 at *
            clear d0 d1 d2 d3 fD lD
            have hsz := HP4.out.bel.size
            go_wp2_with (at_builtin; refine app_int_at rfl _ _ rfl _ rfl rfl HP4.out.a hsz hll ?_)
            intro va w5 h1 h2 h3
            have HP5 := Lib.hid (HP4.out.a_next h1 h2 h3)
            obtain ⟨d0, d1, d2, d3, fD, lD⟩ := HP5.out.box.four
            clear h1 h2 h3 HP4 hsz
            go_wp2
            go_roundg (n - (j + 1))
            case measure => omega
            case rel => exact ⟨j + 1, 1, L2, Pn, F2, Ls ++ [X], FL, by omega, by omega, by go_num, q0, q1, by omega, by omega, by omega, by omega, by omega, Lib.hid q2, fun h => absurd h (by omega), HN3.out, by omega, HP5.out⟩
      · rw [if_neg hov] at ho
        subst ho
        have t5 := decide_eq_false hov
        clear hov
        rcases HTK.out with ⟨e0, Pn, e1, e2, e3, e4, q0, q1, q2⟩ | ⟨e0, Pn, e1, e2, e3, e4, q0, q1, q2, t8, pp⟩
        · have hn2 := Lib.hid e4
          rw [e0, e1, e2, e3] at HST
          generalize plX L P (shS T) s x h = X at *
          have HN2 := Lib.hid (HN.out.next hlt e4)
          have t6 : decide (F < F) = false := decide_eq_false (by omega)
          clear e0 e1 e2 e3 e4 HTK hn2 HN
          go_wp2_with (first | (go_at_call 20; refine (HF.out _).mono ?_; rintro e w' ⟨rfl, rfl⟩) | (go_at_call 21; refine (HU.out _).mono ?_; rintro e w' ⟨rfl, rfl⟩))
          refine (HST.out _).mono ?_
          rintro e w3 ⟨rfl, hb⟩
          obtain ⟨d0, d1, d2, d3, fD, lD⟩ := (HP.out.below hb).box.four
          have HP4 := Lib.hid ((HP.out.below hb).four hgg (.int .i64 L) (.int .i64 Pn) (.int .i64 (shS (T + 1))) (.int .i64 F))
          clear hb hck cB0 cB1 cB2 cB3 fB lB HP HF HU HST
          go_upto_region 14 with (fail)
          generalize (((w3.setCell ⟨g, 0, none⟩ (.int .i64 L)).setCell ⟨g, 1, none⟩ (.int .i64 Pn)).setCell ⟨g, 2, none⟩ (.int .i64 (shS (T + 1)))).setCell ⟨g, 3, none⟩ (.int .i64 F) = w4 at *
          clear d0 d1 d2 d3 fD lD
          have hsz := HP4.out.bel.size
          go_wp2_with (at_builtin; refine app_int_at rfl _ _ rfl _ rfl rfl HP4.out.a hsz hll ?_)
          intro va w5 h1 h2 h3
          have HP5 := Lib.hid (HP4.out.a_next h1 h2 h3)
          obtain ⟨d0, d1, d2, d3, fD, lD⟩ := HP5.out.box.four
          clear h1 h2 h3 HP4 hsz
          go_wp2
          go_roundg (n - (j + 1))
          case measure => omega
          case rel => exact ⟨j + 1, T + 1, L, Pn, F, Ls ++ [X], FL, by omega, by omega, by go_num, q0, q1, by omega, by omega, by omega, by omega, by omega, Lib.hid q2, fun h => absurd h (by omega), HN2.out, by omega, HP5.out⟩
        · have j0 : 0 < j := by
            rcases Nat.eq_zero_or_pos j with e | e
            · have := hP0 e; omega
            · exact e
          rw [e0, e1, e2, e3] at HST
          generalize plX L P (shS T) s x h = X at *
          have HN2 := HN.out.fall j0 t8 e4
          have t6 : decide (F < F + 1) = true := decide_eq_true (by omega)
          have wj : IntKind.i64.wrap ((j : Int) + 1) = (j : Int) + 1 := IntWalk.i64_in _ (by omega)
          rw [show ((j + 1 : Nat) : Int) = (j : Int) + 1 from rfl] at HN2
          clear e0 e1 e2 e3 e4 HTK HN
          obtain ⟨L2, hL2⟩ : ∃ L2, L - 1 = L2 := ⟨_, rfl⟩
          obtain ⟨F2, hF2⟩ : ∃ F2, F + 1 = F2 := ⟨_, rfl⟩
          rw [hL2, hF2] at HST
          rw [hF2] at t6
          have l20 : 1000000 - ((j + 1 : Nat) : Int) ≤ L2 ∧ L2 ≤ 1000000 := by omega
          have f20 : 0 ≤ F2 ∧ F2 ≤ ((j + 1 : Nat) : Int) := by omega
          clear hL2 hF2
          by_cases hjn : j + 1 < n
          · rw [if_pos hjn] at HN2
            have HN3 := Lib.hid HN2
            have t7 : decide ((j : Int) + 1 < (n : Int)) = true := decide_eq_true (by omega)
            clear HN2
            go_wp2_with (first | (go_at_call 20; refine (HF.out _).mono ?_; rintro e w' ⟨rfl, rfl⟩) | (go_at_call 21; refine (HU.out _).mono ?_; rintro e w' ⟨rfl, rfl⟩))
            refine (HST.out _).mono ?_
            rintro e w3 ⟨rfl, hb⟩
            obtain ⟨d0, d1, d2, d3, fD, lD⟩ := (HP.out.below hb).box.four
            have HP4 := Lib.hid ((HP.out.below hb).four hgg (.int .i64 L2) (.int .i64 Pn) (.int .i64 (shS 1)) (.int .i64 F2))
            clear hb hck cB0 cB1 cB2 cB3 fB lB HP HF HU HST
            go_upto_region 14 with (fail)
            generalize (((w3.setCell ⟨g, 0, none⟩ (.int .i64 L2)).setCell ⟨g, 1, none⟩ (.int .i64 Pn)).setCell ⟨g, 2, none⟩ (.int .i64 (shS 1))).setCell ⟨g, 3, none⟩ (.int .i64 F2) = w4 at *
            clear d0 d1 d2 d3 fD lD
            have hsz := HP4.out.bel.size
            go_wp2_with (at_builtin; refine app_int_at rfl _ _ rfl _ rfl rfl HP4.out.a hsz hll ?_)
            intro va w5 h1 h2 h3
            have HP5 := Lib.hid (HP4.out.a_next h1 h2 h3)
            obtain ⟨d0, d1, d2, d3, fD, lD⟩ := HP5.out.box.four
            clear h1 h2 h3 HP4 hsz
            have hsz := HP5.out.bel.size
            go_wp2_with (at_builtin; refine app_int_at rfl _ _ rfl _ rfl rfl HP5.out.b hsz hfl2 ?_)
            intro vb w6 h1 h2 h3
            have HP6 := Lib.hid (HP5.out.b_next h1 h2 h3)
            clear h1 h2 h3 HP5 hsz d0 d1 d2 d3 fD lD
            go_wp2
            go_roundg (n - (j + 1))
            case measure => omega
            case rel => exact ⟨j + 1, 1, L2, Pn, F2, Ls ++ [X], FL ++ [(j : Int) + 1], by omega, by omega, by go_num, q0, q1, by omega, by omega, by omega, by omega, by omega, Lib.hid q2, fun h => absurd h (by omega), HN3.out, by simp; omega, HP6.out⟩
          · rw [if_neg hjn] at HN2
            have HN3 := Lib.hid HN2
            have t7 : decide ((j : Int) + 1 < (n : Int)) = false := decide_eq_false (by omega)
            clear HN2
            go_wp2_with (first | (go_at_call 20; refine (HF.out _).mono ?_; rintro e w' ⟨rfl, rfl⟩) | (go_at_call 21; refine (HU.out _).mono ?_; rintro e w' ⟨rfl, rfl⟩))
            refine (HST.out _).mono ?_
            rintro e w3 ⟨rfl, hb⟩
            obtain ⟨d0, d1, d2, d3, fD, lD⟩ := (HP.out.below hb).box.four
            have HP4 := Lib.hid ((HP.out.below hb).four hgg (.int .i64 L2) (.int .i64 Pn) (.int .i64 (shS 1)) (.int .i64 F2))
            clear hb hck cB0 cB1 cB2 cB3 fB lB HP HF HU HST
            go_upto_region 14 with (fail)
            generalize (((w3.setCell ⟨g, 0, none⟩ (.int .i64 L2)).setCell ⟨g, 1, none⟩ (.int .i64 Pn)).setCell ⟨g, 2, none⟩ (.int .i64 (shS 1))).setCell ⟨g, 3, none⟩ (.int .i64 F2) = w4 at *
            clear d0 d1 d2 d3 fD lD
            have hsz := HP4.out.bel.size
            go_wp2_with (at_builtin; refine app_int_at rfl _ _ rfl _ rfl rfl HP4.out.a hsz hll ?_)
            intro va w5 h1 h2 h3
            have HP5 := Lib.hid (HP4.out.a_next h1 h2 h3)
            obtain ⟨d0, d1, d2, d3, fD, lD⟩ := HP5.out.box.four
            clear h1 h2 h3 HP4 hsz
            go_wp2
            go_roundg (n - (j + 1))
            case measure => omega
            case rel => exact ⟨j + 1, 1, L2, Pn, F2, Ls ++ [X], FL, by omega, by omega, by go_num, q0, q1, by omega, by omega, by omega, by omega, by omega, Lib.hid q2, fun h => absurd h (by omega), HN3.out, by omega, HP5.out⟩
    · obtain rfl : j = n := by omega
      have hl := hseen.len
      have hFL := hseen.done
      have ha := hpair.a
      have hb := hpair.b
      have hbel := hpair.bel
      rw [hl] at ha
      subst hFL
      have hm := dropsL_len Ls j
      obtain ⟨P1, d1, hQ1, hle1⟩ := own_form ha
      obtain ⟨P2, d2, hQ2, hle2⟩ := own_form hb
      subst hQ1 hQ2
      have H1 := Lib.hid (Ints.of_own ha hl)
      have H2 := Lib.hid (Ints.of_own hb rfl)
      clear ha hb hpair hseen hl HI HX
      generalize hds : dropsL Ls j = ds at *
      go_wp2_with (fail)
      refine (sp_drops P1 j d1 Ls _ H1.out (by omega)).mono ?_
      rintro e w3 ⟨B3, d3, rfl, hd3, C3, hb3⟩
      rw [hds] at C3 hd3 ⊢
      have H3 := Lib.hid C3
      have H4 := Lib.hid (H2.out.below hb3)
      have A3 := below_call hbel hb3
      clear C3 hb3 hbel H1 H2 hds
      go_wp2_with (fail)
      refine (same_intsB H3.out H4.out (by omega) (by omega)).mono ?_
      rintro e w4 ⟨rfl, hb4⟩
      have A4 := below_call A3 hb4
      clear hb4 A3 H3 H4
      go_wp2_with (go_at_call 18; refine (law48_awake _).mono ?_; rintro e w' ⟨rfl, hb'⟩)
      go_ret
      exact ⟨rfl, below_call A4 hb'⟩

set_option maxHeartbeats 2000000 in
theorem walk (W : World) (A : Option Addr) (n c : Nat) (xs : List Int) (hi : Nums .u16 W A n xs) (hc : n ≤ c) (hr : n * 2 ≤ 140737488351232) (wx : ∀ x ∈ xs, (Lit.int .u16 x).wf = true) (h : Int) (wh : (Lit.int .u16 h).wf = true) (k : Int) (wk : (Lit.int .u8 k).wf = true) :
    Calls Try.prog 4 #[.slice A n c, .int .u16 h, .int .u8 k] W fun e W' => e = .returned (.bool true) ∧ Below W.heap.size W W' := by
  have hb0 : 0 ≤ h ∧ h ≤ 65535 := by simp only [Lit.wf, IntKind.min, IntKind.max, IntKind.signed, IntKind.bits, Bool.and_eq_true] at wh; simpa using wh
  have hk0 : 0 ≤ k ∧ k ≤ 255 := by simp only [Lit.wf, IntKind.min, IntKind.max, IntKind.signed, IntKind.bits, Bool.and_eq_true] at wk; simpa using wk
  have hx : ∀ j : Nat, j < n → 0 ≤ xs.getD j 0 ∧ xs.getD j 0 ≤ 65535 := fun j hj => by
    have hl : j < xs.length := by have := hi.1; omega
    have := wx (xs.getD j 0) (by simp only [List.getD, List.getElem?_eq_getElem hl, Option.getD_some]; exact List.getElem_mem hl)
    simp only [Lit.wf, IntKind.min, IntKind.max, IntKind.signed, IntKind.bits, Bool.and_eq_true] at this; simpa using this
  by_cases hn : n ≤ 400
  · obtain ⟨q, rfl⟩ : ∃ q : Nat, k = q := ⟨k.toNat, by omega⟩
    exact some_ W A n c xs hi hc hn hx h hb0.1 hb0.2 q (by omega)
  · have t0 : decide (400 < (n : Int)) = true := decide_eq_true (by omega)
    clear hi hx wx
    go_enter Try.func4, Try.ntmps4
    go_wp2_with (go_at_call 18; refine (law48_awake _).mono ?_; rintro e w' ⟨rfl, hb⟩)
    go_ret
    exact ⟨rfl, hb⟩

set_option maxRecDepth 100000 in
theorem lifted (os : Os) (started : os.Started) (H : Type) (enc : TypeId × Value → H) :
    ReturnsInHanded {} Try.checked os 4 .any (Rows.plantSeenSpec.pre6 enc Try.prog Try.f4 Rows.plantSeenRow.domain false) (Rows.plantSeenSpec.post enc Try.prog Try.f4 false true false false) := by
  refine law_lift started (by kernel_rfl) Try.func4 rfl rfl ?_ (by kernel_rfl)
    (ChangeSpec.witness6 (enc := enc) (C := Try.checked) false ⟨#[], #[.slice none 0 0, .int .u16 0, .int .u8 0], []⟩ 8 (by kernel_rfl) (by kernel_rfl) (by kernel_rfl) (by kernel_rfl)) ?_
  · intro ds hl
    match ds, hl with
    | [_, _, _], _ => exact ⟨rfl, rfl, rfl⟩
  · intro W base args ds p hval hA hlt hwt
    rw [Try.params4] at hA hval hwt
    obtain ⟨v0, vs0, d0, ds0, p0, q0, hargs, rfl, rfl, h0, r0⟩ := trodAll_cons hA
    obtain ⟨v1, vs1, d1, ds1, p1, q1, rfl, rfl, rfl, h1, r1⟩ := trodAll_cons r0
    obtain ⟨v2, vs2, d2, ds2, p2, q2, rfl, rfl, rfl, h2, r2⟩ := trodAll_cons r1
    obtain ⟨rfl, rfl, rfl⟩ := trodAll_nil r2
    obtain rfl : args = #[v0, v1, v2] := by cases args; simp_all
    have wt0 : ∀ n ∈ d0.weights Try.prog 33, n ≤ reachBytes := fun n hn => by
      have := List.all_eq_true.1 hwt n (DataW.weights_mem_each (j := 0) (t := 33) (d := d0) rfl rfl n hn)
      simpa using this
    have lt0 : ∀ x ∈ p0, x.block < W.heap.size := fun x hx => hlt x (by simp [hx])
    obtain ⟨A0, n0, c0, xs0, rfl, hi0, hc0, hr0, w0⟩ := open_nums_arg (nb := 2) Try.underlying33 Try.underlying34 (by kernel_rfl) (by kernel_rfl) (hval 0 33 v0 rfl rfl) h0 lt0 wt0
    obtain ⟨a1, rfl, rfl, rfl, w1⟩ := open_int Try.underlying34 (hval 1 34 v1 rfl rfl) h1
    obtain ⟨a2, rfl, rfl, rfl, w2⟩ := open_int Try.underlying5 (hval 2 5 v2 rfl rfl) h2
    exact walk W A0 n0 c0 xs0 hi0 hc0 hr0 w0 a1 w1 a2 w2

theorem over : Rows.plantSeenRow.holds Try.pinned (OpenSpec.ofChange Rows.plantSeenSpec) :=
  OpenClaim.holds_of_wide 4 Try.f4 rfl rfl rfl rfl rfl rfl rfl ⟨rfl, rfl, rfl, rfl, rfl⟩ rfl rfl rfl rfl rfl (by kernel_rfl) Try.func4 (by kernel_rfl)
    (of_decide_eq_true (by kernel_rfl)) (by unfold Func.isWrapper; first | (rw [if_pos (by decide +kernel)]; kernel_rfl) | (rw [if_neg (by decide +kernel)]; exact ⟨rfl, rfl⟩))
    (fun os started H enc _ => lifted os started H enc)

theorem proved : Rows.PlantSeenSaid := over
#print axioms proved
end Go.Proofs.Ytmgbegmhanbcnaa.plantSeen
