/- Contract: closed. -/
import Derived.Test.YtjhdlcemeemlhaaTrSort
import Derived.WalkMore
namespace Go.Proofs.Ytjhdlcemeemlhaa
open Go.RowKit Go.Maps
set_option linter.unusedVariables false
set_option linter.unusedSimpArgs false
set_option maxRecDepth 100000
attribute [local go_sem] cell_set_ite

set_option maxHeartbeats 400000 in
theorem tr_closed (b n : Nat) (D : DU) (M : List Mi) (w : World) (hown : w.ownsMap Try.prog 3 miR b n D) (hR : Rep D M) (hn : n ≤ 1000)
    (hM : M.Pairwise (fun x y => x.b.minute ≠ y.b.minute)) (hF : M.Pairwise (fun x y => x.first < y.first)) :
    Calls Try.prog 12 #[.map (some b)] w fun e w' => ∃ A c D', e = .returned (.slice A M.length c) ∧ M.length ≤ c ∧ Bks w' A M.length (atL (M.map Mi.b)) ∧ w'.ownsMap Try.prog 3 miR b n D' ∧ Rep D' [] ∧ w.grownBy w' (some b) := by
  have HSt := Lib.hid (Swept.start (n := n) hR hown.size_le)
  have HR := Lib.hid hR
  have HM := Lib.hid hM
  have HF := Lib.hid hF
  have HK := Lib.hid sort_there
  have hb0 := hown.lt
  clear hR hM hF
  go_enter Try.func12, Try.ntmps12
  go_wp2_with (first
    | (at_range; refine wpList_range_own _ rfl _ 36 rfl 3 39 law3 Try.underlying36 _ b n _ rfl hown ?_; intro w0 hrg0 hg0 hs0)
    | go_in)
  go_frame
  go_loopw [3, 4, 5] (fun v _ _ wr => ∃ left cnt D' L, wr.ranges Try.prog 3 miR b w.heap.size n D' left cnt ∧ Swept D M n left cnt D' L ∧ wr.ownsRow (w.heap.size + 1) 39 8 v L.length (L.flatMap miC) ∧ w.grownBy wr (some b))
    (fun _ _ _ wr => wr.rangeLeft b w.heap.size)
  case atStart => exact ⟨_, _, _, [], hrg0, HSt.out, World.ownsRow_nil _ _ _ _, hg0.but _⟩
  case round =>
    obtain ⟨left, cnt, D', L, hrg, hsw, hrow, hgw⟩ := hrel
    have hlen := hsw.len
    have HSW := Lib.hid hsw
    have HRW := Lib.hid hrow
    have hws := hgw.size
    have hrl := hrg.lt
    clear hsw hrow
    go_wp2_with (first
      | (at_next; refine next_mi _ rfl _ rfl b w.heap.size n _ _ _ rfl hrg ?_ ?_)
      | go_in)
    · -- nothing is left
      intro hl0
      obtain ⟨hp, hre⟩ := HSW.out.done HM.out hl0
      have hLM : L.length = M.length := hp.length_eq
      have HP := Lib.hid hp
      have HRE := Lib.hid hre
      have hown2 := hrg.owns
      clear hp hre hl0
      have hrow := HRW.out
      rw [hLM] at hrow
      obtain ⟨A, c, rfl, hc⟩ := row_form hrow
      have HLO := Lib.hid hrow.lt
      have hcon := HK.out _ _ _ _ _ hrow hLM (by omega)
      have HCO := Lib.hid hcon
      clear hcon hrow
      go_wp2_with (fail)
      refine HCO.out.mono ?_
      rintro e w1 ⟨rfl, d, hd1, hd2, hd3, hg1⟩
      have ed : d = M := sorted_is (hd1.trans HP.out) hd2 HF.out
      rw [ed] at hd3
      have hownS := hown2.kept hg1 (fun e => by have := (HLO.out _ e.symm).1; omega)
      have HGW := Lib.hid (hgw.andThen hg1 (fun j hj => .inl (by have := (HLO.out _ hj).1; omega)))
      have HO1 := Lib.hid hd3
      have HOS := Lib.hid hownS
      have hsz1 := HGW.out.size
      have hlm : (M.map Mi.b).length = M.length := List.length_map _
      clear hd1 hd2 hd3 hg1 hownS ed
      go_wp2_with (fail)
      go_loopw [6, 8, 26] (fun v _ i wr => ∃ k : Nat, k ≤ M.length ∧ i = .int .i64 k ∧ wr.ownsRow w1.heap.size 33 7 v ((M.map Mi.b).take k).length (((M.map Mi.b).take k).flatMap bkC) ∧ Below w1.heap.size w1 wr)
        (fun _ _ i _ => M.length - (intOf i).toNat)
      case atStart => exact ⟨0, Nat.zero_le _, rfl, World.ownsRow_nil _ _ _ _, Below.refl _ _⟩
      case round =>
        obtain ⟨k, hk, rfl, hrow, B1⟩ := hrel
        have HB := Lib.hid hrow
        clear hrow
        have htl : ((M.map Mi.b).take k).length = k := by rw [List.length_take, hlm]; omega
        by_cases hlt : k < M.length
        · obtain ⟨g, rfl, hgb, hgl, hcell⟩ := row_cells miC_len miZ HO1.out rfl (by omega)
          have hb1 := B1.size
          obtain ⟨y, hy⟩ : ∃ y, M.getD k miZ = y := ⟨_, rfl⟩
          have hkc := fun j hj => (B1.cell (p := ⟨g, k * 8 + j, none⟩) hgl).trans (hcell k hlt j hj)
          rw [hy] at hkc
          have c0 : wr.cell? ⟨g, k * 8, none⟩ = some (.int .i64 y.b.power) := hkc 0 (by omega)
          have c1 : wr.cell? ⟨g, k * 8 + 1, none⟩ = some (.int .i64 y.b.minute) := hkc 1 (by omega)
          have c2 : wr.cell? ⟨g, k * 8 + 2, none⟩ = some (.int .i64 y.b.ticks) := hkc 2 (by omega)
          have c3 : wr.cell? ⟨g, k * 8 + 3, none⟩ = some (.int .i64 y.b.drops) := hkc 3 (by omega)
          have c4 : wr.cell? ⟨g, k * 8 + 4, none⟩ = some (.int .i64 y.b.least) := hkc 4 (by omega)
          have c5 : wr.cell? ⟨g, k * 8 + 5, none⟩ = some (.int .i64 y.b.most) := hkc 5 (by omega)
          have c6 : wr.cell? ⟨g, k * 8 + 6, none⟩ = some (.int .i64 y.b.volume) := hkc 6 (by omega)
          have c7 : wr.cell? ⟨g, k * 8 + 7, none⟩ = some (.int .i64 y.first) := hkc 7 (by omega)
          have hts : (M.map Mi.b).take k ++ [y.b] = (M.map Mi.b).take (k + 1) := by
            rw [List.take_add_one, List.getElem?_map, List.getElem?_eq_getElem hlt]
            have e : M[k] = y := by rw [← hy]; simp [List.getD, List.getElem?_eq_getElem hlt]
            rw [e]; rfl
          have HTS := Lib.hid hts
          clear hkc hcell hy hts
          go_wp2_with (at_builtin; refine app_bk rfl _ _ rfl y.b (p := wr.heap.size + 1) (by simp) rfl rfl (HB.out.alloc _) (by simp; omega) (by rw [htl]; omega) ?_; intro v' w3 ho3 hg3)
          have B3 := ((B1.alloc hb1 (.cells (miC y).toArray 39)).alloc (by simp; omega) (.cells (bkC y.b).toArray 33)).grown hg3 (by simp; omega) (fun q hq => by have := (HB.out.lt q hq).1; omega)
          rw [HTS.out] at ho3
          go_roundw
          case rel => exact ⟨k + 1, by omega, by go_num, ho3, B3⟩
          case measure => simp [intOf]; omega
        · obtain rfl : k = M.length := by omega
          have hrow2 := HB.out
          rw [htl, List.take_of_length_le (by omega)] at hrow2
          obtain ⟨A2, c2, rfl, hc2⟩ := row_form hrow2
          have HBK := Lib.hid (bks_row hrow2 hlm)
          have HG2 : w1.grownBy wr none := ⟨B1.os, B1.tape, B1.output, B1.size, fun i hi _ => B1.block i hi⟩
          clear hrow2
          go_wp2_with (fail)
          all_goals go_ret
          all_goals exact ⟨A2, c2, D', rfl, hc2, HBK.out, HOS.out.kept HG2 (by simp), HRE.out, HGW.out.andThen HG2 (fun j hj => by cases hj)⟩
    · -- an entry has come
      intro x c w1 cnt1 hwx hlx hat hrg1 hlt hg1 hs1 hen
      have hgw1 := hgw.andThen hg1 (fun j hj => by cases hj; exact Or.inl (Nat.le_refl _))
      have HN := Lib.hid (HSW.out.step (cnt' := cnt1) HR.out HM.out hlx hat hlt)
      have HAT := Lib.hid hat
      have HLX := Lib.hid hlx
      clear hat hlx
      unfold miV at hen ⊢
      have hr1 := HRW.out.kept hg1 (.inr (fun e => by have := (HRW.out.lt _ e).1; omega))
      have HR1 := Lib.hid hr1
      clear hr1
      have hlv := HR1.out.lt
      go_wp2_with (first
        | (at_builtin; refine app_mi rfl _ _ rfl c (p := wr.heap.size + 1) (by simp [hs1]) rfl rfl (HR1.out.alloc _) (by simp; omega) (by omega) ?_; intro v' w3 ho3 hg3
           have hrg3 := ((hrg1.alloc (.cells (miC c).toArray 39)).alloc (.cells (miC c).toArray 39)).kept hg3 (fun e => by have := (hlv _ e.symm).1; omega) (fun e => by have := (hlv _ e.symm).1; omega))
        | (at_delete; refine wpList_delete_ranges _ rfl _ _ 36 3 rfl 39 law3 Try.underlying36 miR b w.heap.size n _ _ _ rfl hrg3 _ _ rfl (keyOf_int_mk Try.underlying3 hwx) ?_; intro w4 cnt2 hrg4 hle hturn; go_frame)
        | go_in)
      have hgw3 := ((hgw1.andThen (World.grownBy_alloc w1 (.cells (miC c).toArray 39) none) (fun j hj => by cases hj)).andThen (World.grownBy_alloc (w1.alloc (.cells (miC c).toArray 39)) (.cells (miC c).toArray 39) none) (fun j hj => by cases hj)).andThen hg3 (fun j hj => .inl (by have := (hlv _ hj).1; omega))
      have HO3 := Lib.hid ho3
      rw [strike_twice] at hrg4
      have hm : w4.rangeLeft b w.heap.size < wr.rangeLeft b w.heap.size := by rw [hrg4.left_eq, hrg.left_eq]; omega
      have hfin : Swept D M n (fun z => left z && !z.sameKey (.int .i64 x)) cnt2 (D'.del (.int .i64 x)) (L ++ [c]) := (HSW.out.step HR.out HM.out HLX.out HAT.out (by omega))
      have hrow4 := HO3.out.kept hturn.grown (.inr (fun e => by have := (HO3.out.lt _ e).1; omega))
      have hgw4 := hgw3.andThen hturn.grown (fun j hj => by cases hj; exact Or.inr rfl)
      go_roundw
      case rel => exact ⟨_, cnt2, _, L ++ [c], hrg4, hfin, hrow4, hgw4⟩
      case measure => exact hm
end Go.Proofs.Ytjhdlcemeemlhaa
