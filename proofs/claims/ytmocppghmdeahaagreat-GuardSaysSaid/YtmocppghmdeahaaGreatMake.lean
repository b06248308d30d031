/- The lists that ring.Last and the document make anew. -/
import Derived.Test.YtmocppghmdeahaaGreatRead
import Derived.Deep.OwnRows
namespace Go.Proofs.YtmocppghmdeahaaGreat
set_option maxRecDepth 100000
open Go.RowKit
set_option linter.unusedVariables false
set_option linter.unusedSimpArgs false

theorem drop_take_step (xs : List Int) (r j : Nat) (h : r + j < xs.length) : (xs.drop r).take (j + 1) = (xs.drop r).take j ++ [xs.getD (r + j) 0] := by
  rw [List.take_add_one]
  congr 1
  rw [List.getElem?_drop, List.getElem?_eq_getElem h]
  simp [List.getD, List.getElem?_eq_getElem h]

/-- A list of numbers that is the call's own, and not nil. -/
def OwnSome (w : World) (ys : List Int) (e : Ending) (w' : World) : Prop :=
  ∃ g d, e = .returned (.slice (some ⟨g, 0, none⟩) ys.length d) ∧ w'.ownsRow w.heap.size 3 1 (.slice (some ⟨g, 0, none⟩) ys.length d) ys.length (ys.map (Value.int .i64)) ∧ Below w.heap.size w w'
theorem OwnSome.own {w w' : World} {e : Ending} {ys : List Int} (h : OwnSome w ys e w') : OwnInts w ys e w' := by
  obtain ⟨g, d, he, ho, hb⟩ := h; exact ⟨_, he, ho, hb⟩
theorem ring_last_own (A : Option Addr) (n c : Nat) (xs : List Int) (k : Int) (w : World) (h : Ints w A n xs) (hc : n ≤ c) (hr : n * 8 ≤ 140737488351232) :
    Calls Tryz.prog 51 #[.slice A n c, .int .i64 k] w (OwnSome w (lastL xs k)) := by
  obtain ⟨m, hm⟩ : ∃ m, cntV n k = m := ⟨_, rfl⟩
  have hmn : m ≤ n := hm ▸ cntV_le _ _
  obtain ⟨r, rfl⟩ : ∃ r, n = r + m := ⟨n - m, by omega⟩
  obtain ⟨i0, hi0, hz0, hz1, hz2⟩ := info_parts int_info
  have hT := ring_tail A r m c _ w hm hc (by omega)
  have hI := ints_tail h
  have hL : lastL xs k = xs.drop r := by
    unfold lastL; rw [h.1, hm, Nat.add_sub_cancel]
  rw [hL]
  have hlen : (xs.drop r).length = m := hI.1
  have HI := Lib.hid hI
  have HL := Lib.hid hlen
  have HT := Lib.hid hT
  generalize xs.drop r = ys at *
  generalize tailA A r m = T at *
  clear h hm hL hT hI hlen
  have hmk := run_make_row' (P := Tryz.prog) 28 3 (.int .i64 0) 8 Tryz.underlying28 int_info rfl .i64 .i64 m (by omega) (by omega)
  obtain ⟨w1, hw1⟩ : ∃ w1, w.alloc (.cells (madeCells #[.int .i64 0] m) 3) = w1 := ⟨_, rfl⟩
  have G1 := Lib.hid (show w1.heap[w.heap.size]? = some (.cells (madeCells #[.int .i64 0] m).toList.toArray 3 (0, 0)) by rw [← hw1]; exact heap_alloc_new w _)
  have B1 : Below w.heap.size w w1 := hw1 ▸ (Below.refl w.heap.size w).alloc (Nat.le_refl _) _
  have hmk1 := hmk w
  rw [hw1] at hmk1
  have HK := Lib.hid hmk1
  obtain ⟨cs, hcs⟩ : ∃ cs, ys.map (Value.int .i64) = cs := ⟨_, rfl⟩
  have CS := Lib.hid hcs
  have hsz : (Tryz.prog.info? 3).map (·.size) = some 1 := by rw [hi0]; exact congrArg some hz1
  clear hmk hmk1 hw1 hcs
  have hmk := HK.out
  go_enter Tryz.func51, Tryz.ntmps51
  go_wp2_with (first
    | (go_at_call 86; refine HT.out.mono ?_; rintro e w' ⟨rfl, rfl⟩)
    | (refine wpList_copy_splice (o := ⟨some 15, _, _, _, _, _⟩) rfl _ _ 28 28 rfl 3 Tryz.underlying28 hsz _ _ _ _ _ _ rfl rfl w.heap.size 0 (madeCells #[.int .i64 0] m).toList 3 G1.out cs ?c1 ?c2 ?c3 ?c4 w.heap.size w B1 (Nat.le_refl _) ?_))
  case c1 => rw [← CS.out]; have := HL.out; simp; omega
  case c2 =>
    intro h0
    have hm : 0 < m := by have := HL.out; rw [← CS.out] at h0; simp at h0; omega
    obtain ⟨b, off, e, hlt, hcell⟩ := HI.out.2 hm
    refine ⟨_, e, fun j v hv => ?_⟩
    rw [← CS.out, List.getElem?_map, Option.map_eq_some_iff] at hv
    obtain ⟨y, hy, rfl⟩ := hv
    have hj : j < m := by have := (List.getElem?_eq_some_iff.1 hy).1; have := HL.out; omega
    rw [Addr.add_lit, B1.cell (p := ⟨b, off + j, none⟩) hlt, hcell j hj]
    simp [List.getD, hy]
  case c3 => rw [← CS.out]; have := HL.out; have := size_madeCells #[.int .i64 0] m; simp; omega
  case c4 =>
    intro v hv
    rw [← CS.out] at hv
    obtain ⟨y, _, rfl⟩ := List.mem_map.1 hv
    rfl
  intro w2 HG hb2
  have hN : OwnSome w ys (.returned (.slice (some ⟨w.heap.size, 0, none⟩) m m)) w2 := by
    have hl := HL.out
    have hs : splice (madeCells #[.int .i64 0] m).toList 0 cs = cs := by
      unfold splice
      rw [List.take_zero, List.nil_append, List.drop_eq_nil_of_le, List.append_nil]
      rw [← CS.out]; have := size_madeCells #[.int .i64 0] m; simp; omega
    have hg := HG.out
    rw [hs, ← CS.out] at hg
    refine ⟨w.heap.size, m, by rw [hl], ⟨by simp, .inr ⟨w.heap.size, m, _, rfl, Nat.le_refl _, hg, by omega, by unfold maxLen; omega, by simp [hl], by rw [List.take_of_length_le (by simp)]⟩⟩, hb2⟩
  have HN := Lib.hid hN
  clear hN HG
  go_wp2
  go_ret
  exact HN.out
theorem ring_last (A : Option Addr) (n c : Nat) (xs : List Int) (k : Int) (w : World) (h : Ints w A n xs) (hc : n ≤ c) (hr : n * 8 ≤ 140737488351232) :
    Calls Tryz.prog 51 #[.slice A n c, .int .i64 k] w (NewInts w (lastL xs k)) :=
  (ring_last_own A n c xs k w h hc hr).mono fun _ _ h => h.own.new

/-- What the document has put together of a list so far. -/
def Sofar (w : World) (xs : List Int) (r : Nat) (v : Value) (j : Nat) (wr : World) : Prop :=
  (∃ B d, v = .slice B j d ∧ j ≤ d) ∧ wr.ownsRow w.heap.size 3 1 v j (((xs.drop r).take j).map (Value.int .i64)) ∧ Below w.heap.size w wr
theorem Sofar.start (w : World) (xs : List Int) (r : Nat) : Sofar w xs r (.slice none 0 0) 0 w :=
  ⟨⟨none, 0, rfl, Nat.le_refl _⟩, by simpa using World.ownsRow_nil w w.heap.size 3 1, Below.refl _ _⟩
theorem Sofar.form {w wr : World} {xs : List Int} {r j : Nat} {v : Value} (h : Sofar w xs r v j wr) : ∃ B d, v = .slice B j d := by
  obtain ⟨⟨B, d, rfl, _⟩, _⟩ := h; exact ⟨B, d, rfl⟩
theorem Sofar.next {w wr w1 : World} {xs : List Int} {r j : Nat} {v v' : Value} {x : Int} {cs : Obj} (h : Sofar w xs r v j wr) (hj : r + j < xs.length) (hx : xs.getD (r + j) 0 = x)
    (ho : w1.ownsRow w.heap.size 3 1 v' (j + 1) (((xs.drop r).take j).map (Value.int .i64) ++ [.int .i64 x])) (hg : (wr.alloc cs).grownBy w1 v.ownBlock) : Sofar w xs r v' (j + 1) w1 := by
  obtain ⟨_, hown, hb⟩ := h
  refine ⟨own_form ho, ?_, (hb.alloc hb.size _).grown hg (by have := hb.size; simp; omega) (fun g hg => by have := (hown.lt g hg).1; omega)⟩
  rw [drop_take_step xs r j hj, hx]
  simpa using ho
theorem Sofar.done {w wr : World} {xs : List Int} {r n : Nat} {v : Value} (h : Sofar w xs r v (n - r) wr) (hl : xs.length = n) : OwnInts w (xs.drop r) (.returned v) wr := by
  obtain ⟨_, hown, hb⟩ := h
  rw [List.take_of_length_le (by simp; omega)] at hown
  exact ⟨v, rfl, by rw [show (xs.drop r).length = n - r by simp; omega]; exact hown, hb⟩
theorem Sofar.done1 {w wr w1 : World} {xs : List Int} {r n : Nat} {v v' : Value} {x : Int} {cs : Obj} (h : Sofar w xs r v (n - r) wr) (hl : xs.length = n)
    (ho : w1.ownsRow w.heap.size 3 1 v' (n - r + 1) (((xs.drop r).take (n - r)).map (Value.int .i64) ++ [.int .i64 x])) (hg : (wr.alloc cs).grownBy w1 v.ownBlock) : OwnInts w (xs.drop r ++ [x]) (.returned v') w1 := by
  obtain ⟨_, hown, hb⟩ := h
  rw [List.take_of_length_le (by simp; omega)] at ho
  refine ⟨v', rfl, by rw [show (xs.drop r ++ [x]).length = n - r + 1 by simp; omega]; simpa using ho, ?_⟩
  exact ((hb.alloc hb.size _).grown hg (by have := hb.size; simp; omega) (fun g hg => by have := (hown.lt g hg).1; omega))

/-- A list of its own that the document makes, one number behind the other. -/
theorem ref_push_own (A : Option Addr) (n c : Nat) (xs : List Int) (most x : Int) (w : World) (h : Ints w A n xs) (hc : n ≤ c) (hr : n * 8 ≤ 140737488351232) (h0 : -9223372036854775808 ≤ most) (h1 : most ≤ 9223372036854775807) :
    Calls Tryz.prog 94 #[.slice A n c, .int .i64 most, .int .i64 x] w (OwnInts w (pushL xs most x)) := by
  obtain ⟨i0, hi0, hz0, hz1, hz2⟩ := info_parts int_info
  have hR := fun w => ref_room most w h0 h1
  have hq := roomN_le most
  unfold pushL
  have hce : cntV n ((roomN most : Int) - 1) = if roomN most = 0 then 0 else min n (roomN most - 1) := by
    unfold cntV
    repeat' split
    all_goals omega
  have hL : lastL xs ((roomN most : Int) - 1) = xs.drop (n - cntV n ((roomN most : Int) - 1)) := by unfold lastL; rw [h.1]
  rw [hL, hce]
  clear hL hce h0 h1
  generalize roomN most = q at *
  obtain ⟨r, hrr⟩ : ∃ r, n - (if q = 0 then 0 else min n (q - 1)) = r := ⟨_, rfl⟩
  rw [hrr]
  have HI := Lib.hid h
  have HL := Lib.hid h.1
  by_cases hq0 : q = 0
  · subst hq0
    rw [if_pos rfl]
    clear h hrr
    go_enter Tryz.func94, Tryz.ntmps94
    go_wp2_with ((go_at_call 105; refine (hR _).mono ?_; rintro e w' ⟨rfl, rfl⟩))
    go_loop [8] (fun i => i = .int .i64 ((n : Int) + 1)) (fun _ => 0)
    case atStart => rfl
    case round =>
      obtain rfl := hrel
      have d : decide ((n : Int) + 1 < n) = false := by simp; omega
      go_wp2_with ((go_at_call 105; refine (hR _).mono ?_; rintro e w' ⟨rfl, rfl⟩))
      go_ret
      exact ⟨_, rfl, World.ownsRow_nil _ _ _ _, Below.refl _ _⟩
  · rw [if_neg hq0]
    rw [if_neg hq0] at hrr
    have hrn : r ≤ n := by omega
    have hs : ((n : Int) + 1 - q = r ∧ 0 < r) ∨ ((n : Int) + 1 - q ≤ 0 ∧ Hid (r = 0)) := by
      rcases (show ((n : Int) + 1 - q = r ∧ 0 < r) ∨ ((n : Int) + 1 - q ≤ 0 ∧ r = 0) by omega) with h | ⟨a, b⟩
      · exact .inl h
      · exact .inr ⟨a, Lib.hid b⟩
    have hq1 : ((q : Int) == 0) = false := by simpa using hq0
    clear h hrr
    rcases hs with ⟨hs, hs0⟩ | ⟨hs, R0⟩
    all_goals
      go_enter Tryz.func94, Tryz.ntmps94
      go_wp2_with ((go_at_call 105; refine (hR _).mono ?_; rintro e w' ⟨rfl, rfl⟩))
    all_goals
      go_loopw [7, 8] (fun v i wr => ∃ j : Nat, r + j ≤ n ∧ i = .int .i64 (r + j : Nat) ∧ Sofar w xs r v j wr) (fun _ i _ => n - (intOf i).toNat)
      case atStart => exact ⟨0, hrn, (by first | rfl | (rw [R0.out]; rfl) | (simp; omega)), Sofar.start w xs r⟩
      case round =>
        obtain ⟨j, hj, rfl, hso⟩ := hrel
        obtain ⟨B, d, rfl⟩ := hso.form
        have hsz := hso.2.2.size
        by_cases hlt : r + j < n
        · obtain ⟨b, off, rfl, hbs, hcell⟩ := HI.out.at_ hlt
          have hck := (hso.2.2.cell (p := ⟨b, off + (r + j), none⟩) hbs).trans hcell
          obtain ⟨y, hy⟩ : ∃ y, xs.getD (r + j) 0 = y := ⟨_, rfl⟩
          rw [hy] at hck
          have HY := Lib.hid hy
          have HS := Lib.hid hso
          have hown := Lib.hid hso.2.1
          clear hcell hy hso
          go_wp2_with (at_builtin; refine app_int rfl _ _ rfl y rfl rfl hown.out hsz (by omega) ?_)
          intro v' w1 hown' hg
          have hnext := Lib.hid (HS.out.next (by have := HL.out; omega) HY.out (by simpa using hown') hg)
          clear hown' hg hown hck HY HS
          go_wp2
          go_roundw
          case rel => exact ⟨j + 1, by omega, by go_num, hnext.out⟩
          case measure => simp [intOf]; omega
        · obtain rfl : j = n - r := by omega
          have HS := Lib.hid hso
          have hown := Lib.hid hso.2.1
          have d1 : decide (((r + (n - r) : Nat) : Int) < n) = false := by simp; omega
          clear hso
          go_wp2_with (first
            | (go_at_call 105; refine (hR _).mono ?_; rintro e w' ⟨rfl, rfl⟩)
            | (at_builtin; refine app_int rfl _ _ rfl x rfl rfl hown.out hsz (by omega) ?_))
          intro v' w1 hown' hg
          have hdone := Lib.hid (HS.out.done1 HL.out (by simpa using hown') hg)
          clear hown' hg hown HS
          go_wp2
          go_ret
          exact hdone.out

theorem ref_last_own (A : Option Addr) (n c : Nat) (xs : List Int) (k : Int) (w : World) (h : Ints w A n xs) (hc : n ≤ c) (hr : n * 8 ≤ 140737488351232) (h0 : -9223372036854775808 ≤ k) (h1 : k ≤ 9223372036854775807) :
    Calls Tryz.prog 64 #[.slice A n c, .int .i64 k] w (OwnInts w (lastL xs k)) := by
  have hL : lastL xs k = xs.drop (n - cntV n k) := by unfold lastL; rw [h.1]
  rw [hL]
  obtain ⟨r, hrr⟩ : ∃ r, n - cntV n k = r := ⟨_, rfl⟩
  rw [hrr]
  have hcm := cntV_le n k
  have hrn : r ≤ n := by omega
  have hk : k < 0 ∧ Hid (r = n) ∨ 0 ≤ k ∧ (n : Int) < k ∧ Hid (r = 0) ∨ 0 ≤ k ∧ k ≤ (n : Int) ∧ (n : Int) - k = r := by
    unfold cntV at hrr
    by_cases a : k < 0
    · rw [if_pos a] at hrr; exact .inl ⟨a, Lib.hid (by omega)⟩
    · rw [if_neg a] at hrr
      by_cases b : (n : Int) < k
      · rw [if_pos b] at hrr; exact .inr (.inl ⟨by omega, b, Lib.hid (by omega)⟩)
      · rw [if_neg b] at hrr; exact .inr (.inr ⟨by omega, by omega, by omega⟩)
  have HI := Lib.hid h
  have HL := Lib.hid h.1
  clear h hrr hL hcm
  rcases hk with ⟨k0, R0⟩ | ⟨k0, k1, R0⟩ | ⟨k0, k1, R0⟩
  all_goals
    go_enter Tryz.func64, Tryz.ntmps64
    go_wp2
  all_goals
    go_loopw [5, 6] (fun v i wr => ∃ j : Nat, r + j ≤ n ∧ i = .int .i64 (r + j : Nat) ∧ Sofar w xs r v j wr) (fun _ i _ => n - (intOf i).toNat)
    case atStart => exact ⟨0, hrn, (by first | rfl | (rw [R0.out]; rfl)), Sofar.start w xs r⟩
    case round =>
      obtain ⟨j, hj, rfl, hso⟩ := hrel
      obtain ⟨B, d, rfl⟩ := hso.form
      have hsz := hso.2.2.size
      by_cases hlt : r + j < n
      · obtain ⟨b, off, rfl, hbs, hcell⟩ := HI.out.at_ hlt
        have hck := (hso.2.2.cell (p := ⟨b, off + (r + j), none⟩) hbs).trans hcell
        obtain ⟨y, hy⟩ : ∃ y, xs.getD (r + j) 0 = y := ⟨_, rfl⟩
        rw [hy] at hck
        have HY := Lib.hid hy
        have HS := Lib.hid hso
        have hown := Lib.hid hso.2.1
        clear hcell hy hso
        go_wp2_with (at_builtin; refine app_int rfl _ _ rfl y rfl rfl hown.out hsz (by omega) ?_)
        intro v' w1 hown' hg
        have hnext := Lib.hid (HS.out.next (by have := HL.out; omega) HY.out (by simpa using hown') hg)
        clear hown' hg hown hck HY HS
        go_wp2
        go_roundw
        case rel => exact ⟨j + 1, by omega, by go_num, hnext.out⟩
        case measure => simp [intOf]; omega
      · obtain rfl : j = n - r := by omega
        have HS := Lib.hid (hso.done HL.out)
        have d1 : decide (((r + (n - r) : Nat) : Int) < n) = false := by simp; omega
        clear hso
        go_wp2
        go_ret
        exact HS.out
theorem ref_push (A : Option Addr) (n c : Nat) (xs : List Int) (most x : Int) (w : World) (h : Ints w A n xs) (hc : n ≤ c) (hr : n * 8 ≤ 140737488351232) (h0 : -9223372036854775808 ≤ most) (h1 : most ≤ 9223372036854775807) :
    Calls Tryz.prog 94 #[.slice A n c, .int .i64 most, .int .i64 x] w (NewInts w (pushL xs most x)) :=
  (ref_push_own A n c xs most x w h hc hr h0 h1).mono fun _ _ h => h.new
theorem ref_last (A : Option Addr) (n c : Nat) (xs : List Int) (k : Int) (w : World) (h : Ints w A n xs) (hc : n ≤ c) (hr : n * 8 ≤ 140737488351232) (h0 : -9223372036854775808 ≤ k) (h1 : k ≤ 9223372036854775807) :
    Calls Tryz.prog 64 #[.slice A n c, .int .i64 k] w (NewInts w (lastL xs k)) :=
  (ref_last_own A n c xs k w h hc hr h0 h1).mono fun _ _ h => h.new
end Go.Proofs.YtmocppghmdeahaaGreat
