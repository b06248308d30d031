/- Contract of the document's own sorting. -/
import Derived.Test.YtkmhkhmifecbdaaMed
import Derived.Test.YtkmhkhmifecbdaaAppS
import Derived.Test.YtkmhkhmifecbdaaGrown
namespace Go.Proofs.Ytkmhkhmifecbdaa
set_option maxRecDepth 100000
open Go.RowKit
set_option linter.unusedVariables false
set_option linter.unusedSimpArgs false

theorem take_one (xs : List Int) (k : Nat) (h : k < xs.length) : xs.take (k + 1) = xs.take k ++ [xs.getD k 0] := by
  rw [List.take_succ_eq_append_getElem h]
  simp [List.getD, List.getElem?_eq_getElem h]

theorem own_shape {w : World} {base e n d : Nat} {B : Option Addr} {cs : List Value} (h : w.ownsRow base e 1 (.slice B n d) n cs) : (B = none ∧ n = 0 ∧ d = 0) ∨ ∃ g, B = some ⟨g, 0, none⟩ ∧ base ≤ g ∧ g < w.heap.size ∧ n ≤ d := by
  rcases h.2 with ⟨e0, h0⟩ | ⟨g, cap, cur, e0, hb, hg, hnc, hm, hs, ht⟩
  · injection e0 with e1 e2 e3
    exact .inl ⟨e1, e2, e3⟩
  · injection e0 with e1 e2 e3
    subst e1; subst e3
    exact .inr ⟨g, rfl, hb, (Array.getElem?_eq_some_iff.1 hg).1, hnc⟩

/-- What is known when the rest has been put aside. -/
theorem aside {w wr w1 : World} {S : List Int} {B : Option Addr} {L d j m Q : Nat} {v1 : Value} {o : Obj} (h : Grown w S (.slice B L d) wr) (hL : S.length = L) (hj : L = j + m)
    (ho1 : w1.ownsRow wr.heap.size 3 1 v1 m ((S.map (Value.int .i64)).drop j)) (hg1 : (wr.drewN Q).grownBy w1 (Value.slice none 0 0).ownBlock) :
    ∃ R dr, v1 = .slice R m dr ∧ w1.drew.ownsRow w.heap.size 3 1 (.slice B j d) j ((S.take j).map (Value.int .i64)) ∧ w.heap.size ≤ w1.drew.heap.size ∧ Below w.heap.size w w1 ∧
      (∀ w2, ((w1.drew.alloc o).grownBy w2 (Value.slice B j d).ownBlock) → Ints w2 R m (S.drop j)) := by
  have hown := h.2.1
  rw [hL] at hown
  rw [← List.map_drop] at ho1
  obtain ⟨R, dr, rfl, _⟩ := own_form ho1
  have hb1 : Below w.heap.size w w1 := (below_drewN h.2.2 Q).grown hg1 h.2.2.size (fun k hk => by cases hk)
  have hf := own_first hown (j := j) (by omega)
  rw [← List.map_take] at hf
  have hf1 : w1.ownsRow w.heap.size 3 1 (.slice B j d) j ((S.take j).map (Value.int .i64)) :=
    World.ownsRow.kept (w := wr.drewN Q) hf hg1 (by cases (Value.slice B j d).ownBlock <;> simp [Value.ownBlock])
  refine ⟨R, dr, rfl, hf1, hb1.size, hb1, fun w2 hg2 => ?_⟩
  have hi : Ints w1 R m (S.drop j) := Ints.of_own ho1 (by rw [List.length_drop]; omega)
  have hi2 : Ints (w1.drew.alloc o) R m (S.drop j) := hi.below ((below_drewN (Below.refl _ _) 1).alloc (Nat.le_refl _) _)
  refine hi2.grown hg2 (fun g off e => ?_)
  subst e
  have h1 := (ho1.lt g rfl).1
  intro h2
  have h3 := (hf.lt g h2.symm).2
  omega

theorem put_grown {w w1 w2 w3 : World} {F T : List Int} {x : Int} {v v2 v3 : Value} {o : Obj} {j m : Nat} {cs : List Value} (hb1 : Below w.heap.size w w1) (hf1 : w1.drew.ownsRow w.heap.size 3 1 v j cs)
    (hg2 : (w1.drew.alloc o).grownBy w2 v.ownBlock) (ho2 : w2.ownsRow w.heap.size 3 1 v2 (j + 1) (F.map (Value.int .i64) ++ [.int .i64 x])) (hg3 : w2.grownBy w3 v2.ownBlock)
    (ho3 : w3.ownsRow w.heap.size 3 1 v3 (j + 1 + m) ((F.map (Value.int .i64) ++ [.int .i64 x]) ++ T.map (Value.int .i64))) : Grown w (F ++ [x] ++ T) v3 w3 := by
  have hl : (F ++ [x] ++ T).length = j + 1 + m := by have := ho3.1; simpa using this
  have hm : (F ++ [x] ++ T).map (Value.int .i64) = (F.map (Value.int .i64) ++ [.int .i64 x]) ++ T.map (Value.int .i64) := by simp
  have b1 : Below w.heap.size w (w1.drew.alloc o) := (below_drewN hb1 1).alloc hb1.size _
  have b2 : Below w.heap.size w w2 := b1.grown hg2 b1.size (fun k hk => (hf1.lt k hk).1)
  have b3 : Below w.heap.size w w3 := b2.grown hg3 b2.size (fun k hk => (ho2.lt k hk).1)
  refine ⟨by rw [hl]; exact own_form ho3, by rw [hl, hm]; exact ho3, b3⟩

set_option maxHeartbeats 1000000 in
theorem ref8_sort (A : Option Addr) (n c : Nat) (xs : List Int) (w : World) (h : Ints w A n xs) (hc : n ≤ c) (hr : n ≤ 1000) :
    Calls Try.prog 25 #[.slice A n c] w (OwnInts w (sortL xs)) := by
  have HX := Lib.hid h
  have HL := Lib.hid h.1
  clear h
  go_enter Try.func25, Try.ntmps25
  go_wp2
  go_loopw [3, 9] (fun v i wr => ∃ k : Nat, k ≤ n ∧ i = .int .i64 k ∧ Grown w (sortL (xs.take k)) v wr) (fun _ i _ => n - (intOf i).toNat)
  case atStart => exact ⟨0, Nat.zero_le _, rfl, by rw [List.take_zero, show sortL [] = [] from List.eq_nil_of_length_eq_zero (sortL_len [])]; exact Grown.nil w⟩
  case round =>
    obtain ⟨k, hk, rfl, hso⟩ := hrel
    by_cases hlt : k < n
    · obtain ⟨b, off, rfl, hbs, hcell⟩ := HX.out.at_ hlt
      have hck := (hso.2.2.cell (p := ⟨b, off + k, none⟩) hbs).trans hcell
      have hst := take_one xs k (by have := HL.out; omega)
      have hup := sortL_up (xs.take k)
      have hlen := sortL_len (xs.take k)
      rw [List.length_take, HL.out, Nat.min_eq_left (by omega)] at hlen
      obtain ⟨S, hS⟩ : ∃ S, sortL (xs.take k) = S := ⟨_, rfl⟩
      obtain ⟨x, hx⟩ : ∃ x, xs.getD k 0 = x := ⟨_, rfl⟩
      rw [hS] at hso hup hlen
      rw [hx] at hck hst
      have KS := Lib.hid hS
      have KX := Lib.hid hx
      have KT := Lib.hid hst
      have KC := Lib.hid hcell
      obtain ⟨L, hLl⟩ : ∃ L, S.length = L := ⟨_, rfl⟩
      have hkl : L ≤ 1000 := by omega
      obtain ⟨B, d, rfl, hd, hi⟩ := hso.form
      rw [hLl] at hd hi hso ⊢
      have KL := Lib.hid hLl
      have HS := Lib.hid hso
      have HI := Lib.hid hi
      have HU := Lib.hid hup
      clear hS hx hst hcell hLl hlen hso hi hup
      go_wp2
      go_loopw [5] (fun a wq => ∃ j q : Nat, j ≤ L ∧ a = .int .i64 j ∧ (∀ i, j ≤ i → i < L → x < S.getD i 0) ∧ wq = wr.drewN q) (fun a _ => (intOf a).toNat)
      case atStart => exact ⟨L, 0, Nat.le_refl _, rfl, fun i h1 h2 => absurd h1 (by omega), rfl⟩
      case round =>
        obtain ⟨j, q, hj, rfl, hgt, rfl⟩ := hrel
        have HGT := Lib.hid hgt
        clear hgt
        have hway : (∃ p, j = p + 1 ∧ x < S.getD p 0) ∨ ((∀ i, i < j → S.getD i 0 ≤ x) ∧ (j = 0 ∨ ∃ p, j = p + 1 ∧ S.getD p 0 ≤ x)) := by
          match j, hj with
          | 0, _ => exact .inr ⟨fun i h => absurd h (by omega), .inl rfl⟩
          | p + 1, hj =>
            by_cases g : x < S.getD p 0
            · exact .inl ⟨p, rfl, g⟩
            · refine .inr ⟨fun i hi => ?_, .inr ⟨p, rfl, by omega⟩⟩
              have := up_le HU.out (i := i) (j := p) (by omega) (by have := KL.out; omega)
              omega
        rcases hway with ⟨p, rfl, hxp⟩ | ⟨hle, hway⟩
        · obtain ⟨bb, oo, rfl, hbb, hcc⟩ := HI.out.at_ (k := p) (by omega)
          obtain ⟨y, hy⟩ : ∃ y, S.getD p 0 = y := ⟨_, rfl⟩
          rw [hy] at hcc hxp
          have KY := Lib.hid hy
          have HXP := Lib.hid hxp
          have HGT2 : Hid (∀ i, p ≤ i → i < L → x < S.getD i 0) := Lib.hid (fun i h1 h2 => by
            by_cases e : i = p
            · subst e; rw [KY.out]; exact HXP.out
            · exact HGT.out i (by omega) h2)
          clear hy
          go_wp2
          go_quiet (fail)
          all_goals go_wp2
          all_goals
            go_roundw
            case rel => exact ⟨p, q + nq, by omega, by go_num, HGT2.out, rfl⟩
            case measure => simp [intOf]
        · obtain ⟨m, hm⟩ : ∃ m, L = j + m := ⟨L - j, by omega⟩
          have HLE := Lib.hid hle
          have hput := Lib.hid (sortL_put (xs.take k) x S KS.out j (by have := KL.out; omega) HLE.out (fun i h1 h2 => HGT.out i h1 (by have := KL.out; omega)))
          have KM := Lib.hid hm
          have HLB : Hid (wr.heap.size ≥ w.heap.size) := Lib.hid HS.out.2.2.size
          have hsh := own_shape (w := wr) (by have := HS.out.2.1; rw [KL.out] at this; exact this)
          have hshape : ∃ TA s, d = j + s ∧ m ≤ s ∧ Hid (Ints wr TA m (S.drop j)) ∧ ((B = none ∧ j = 0 ∧ m = 0 ∧ s = 0 ∧ TA = none) ∨ (∃ g, B = some ⟨g, 0, none⟩ ∧ ((s = 0 ∧ m = 0 ∧ TA = some ⟨g, 0, none⟩) ∨ (0 < s ∧ TA = some ⟨g, j, none⟩)))) := by
            rcases hsh with ⟨rfl, h1, h2⟩ | ⟨g, rfl, _, _, h1⟩
            · obtain rfl : j = 0 := by omega
              obtain rfl : m = 0 := by omega
              refine ⟨none, 0, by omega, by omega, Lib.hid ?_, .inl ⟨rfl, rfl, rfl, rfl, rfl⟩⟩
              rw [List.drop_of_length_le (by have := KL.out; omega)]
              exact Ints.no
            · obtain ⟨s, hs⟩ : ∃ s, d = j + s := ⟨d - j, by omega⟩
              by_cases s0 : s = 0
              · obtain rfl : m = 0 := by omega
                refine ⟨some ⟨g, 0, none⟩, s, hs, by omega, Lib.hid ?_, .inr ⟨g, rfl, .inl ⟨s0, rfl, rfl⟩⟩⟩
                rw [List.drop_of_length_le (by have := KL.out; omega)]
                exact Ints.no
              · refine ⟨some ⟨g, j, none⟩, s, hs, by omega, Lib.hid ?_, .inr ⟨g, rfl, .inr ⟨by omega, rfl⟩⟩⟩
                have := HI.out.behind (A := none) (j := j) (m := m) hm
                rw [Nat.zero_add] at this
                exact this
          clear hsh hle
          obtain ⟨TA, s, rfl, hms, HT, hshape⟩ := hshape
          subst hm
          rcases hshape with ⟨rfl, rfl, rfl, rfl, rfl⟩ | ⟨g, rfl, hshape⟩
          · have HS : Hid (Grown w S (.slice none 0 0) wr) := HS
            have KL : Hid (S.length = 0) := KL
            clear hway hms
            go_wp2
            go_quiet (fail)
            go_wp2_with (at_builtin; refine app_ints rfl _ _ rfl rfl rfl HT.out (World.ownsRow_nil _ wr.heap.size _ _) (Nat.le_refl _) (by omega) ?_)
            intro v1 w1 ho1 hg1
            obtain ⟨R, dr, rfl, hf1, hz1, hb1, hrest⟩ := aside (o := .cells #[.int .i64 x] 3) (j := 0) (m := 0) HS.out KL.out rfl ho1 hg1
            have HF1 := Lib.hid hf1
            have HB1 := Lib.hid hb1
            have HR := Lib.hid hrest
            have hck1 := (hb1.cell (p := ⟨b, off + k, none⟩) hbs).trans KC.out
            rw [KX.out] at hck1
            clear ho1 hg1 hf1 hb1 hrest hck
            go_wp2
            go_region_law (first
              | (refine step_app_one (w := w1.drew) rfl (.tmp 37) (.tmp 42) 22 rfl 3 (.int .i64 0) 8 Try.underlying22 int_info rfl (.int .i64 x) rfl rfl rfl HF1.out hz1 (by omega) (by omega) ?_; intro v2 w2 ho2 hg2; have HO2 := Lib.hid ho2; have HG2 := Lib.hid hg2; have HR2 := Lib.hid (HR.out w2 hg2); have hz2 : w.heap.size ≤ w2.heap.size := Nat.le_trans (by simpa using hz1) (Nat.le_trans (by simp) hg2.size); clear ho2 hg2)
              | (refine step_app_ints rfl (.tmp 43) (.tmp 44) rfl rfl rfl HR2.out HO2.out hz2 (by omega) ?_; intro v3 w3 ho3 hg3; have HO3 := Lib.hid ho3; have HG3 := Lib.hid hg3; clear ho3 hg3))
            have hnext := Lib.hid (put_grown HB1.out HF1.out HG2.out HO2.out HG3.out HO3.out)
            clear HO2 HO3 HG2 HG3 HR2 HF1 hz1 hz2
            go_wp2
            go_roundw
            case rel => exact ⟨k + 1, by omega, by go_num, by rw [KT.out, hput.out]; exact hnext.out⟩
            case measure => simp [intOf]; omega
          · rcases hshape with ⟨rfl, rfl, rfl⟩ | ⟨hs0, rfl⟩
            · have HS : Hid (Grown w S (.slice (some ⟨g, 0, none⟩) j j) wr) := HS
              have KL : Hid (S.length = j) := KL
              have HI : Hid (Ints wr (some ⟨g, 0, none⟩) j S) := HI
              rcases hway with h0 | ⟨p, hp, hpx⟩
              · have t0 : decide (0 < j) = false := by simp; omega
                clear h0
                go_wp2
                go_quiet (fail)
                go_wp2_with (at_builtin; refine app_ints rfl _ _ rfl rfl rfl HT.out (World.ownsRow_nil _ wr.heap.size _ _) (Nat.le_refl _) (by omega) ?_)
                intro v1 w1 ho1 hg1
                obtain ⟨R, dr, rfl, hf1, hz1, hb1, hrest⟩ := aside (o := .cells #[.int .i64 x] 3) (j := j) (m := 0) HS.out KL.out rfl ho1 hg1
                have HF1 := Lib.hid hf1
                have HB1 := Lib.hid hb1
                have HR := Lib.hid hrest
                have hck1 := (hb1.cell (p := ⟨b, off + k, none⟩) hbs).trans KC.out
                rw [KX.out] at hck1
                have hjs : (j : Int) ≤ (j : Int) := by omega
                clear ho1 hg1 hf1 hb1 hrest hck
                go_wp2
                go_region_law (first
                  | (refine step_app_one (w := w1.drew) rfl (.tmp 37) (.tmp 42) 22 rfl 3 (.int .i64 0) 8 Try.underlying22 int_info rfl (.int .i64 x) rfl rfl rfl HF1.out hz1 (by omega) (by omega) ?_; intro v2 w2 ho2 hg2; have HO2 := Lib.hid ho2; have HG2 := Lib.hid hg2; have HR2 := Lib.hid (HR.out w2 hg2); have hz2 : w.heap.size ≤ w2.heap.size := Nat.le_trans (by simpa using hz1) (Nat.le_trans (by simp) hg2.size); clear ho2 hg2)
                  | (refine step_app_ints rfl (.tmp 43) (.tmp 44) rfl rfl rfl HR2.out HO2.out hz2 (by omega) ?_; intro v3 w3 ho3 hg3; have HO3 := Lib.hid ho3; have HG3 := Lib.hid hg3; clear ho3 hg3))
                have hnext := Lib.hid (put_grown HB1.out HF1.out HG2.out HO2.out HG3.out HO3.out)
                clear HO2 HO3 HG2 HG3 HR2 HF1 hz1 hz2
                go_wp2
                go_roundw
                case rel => exact ⟨k + 1, by omega, by go_num, by rw [KT.out, hput.out]; exact hnext.out⟩
                case measure => simp [intOf]; omega
              · obtain ⟨bb, oo, ebb, hbb, hcc⟩ := HI.out.at_ (k := p) (by omega)
                injection ebb with ebb
                injection ebb with e1 e2
                subst e1; subst e2
                subst hp
                obtain ⟨y, hy⟩ : ∃ y, S.getD p 0 = y := ⟨_, rfl⟩
                rw [hy] at hcc hpx
                rw [Nat.zero_add] at hcc
                clear hy
                go_wp2
                go_quiet (fail)
                go_wp2_with (at_builtin; refine app_ints rfl _ _ rfl rfl rfl HT.out (World.ownsRow_nil _ wr.heap.size _ _) (Nat.le_refl _) (by omega) ?_)
                intro v1 w1 ho1 hg1
                obtain ⟨R, dr, rfl, hf1, hz1, hb1, hrest⟩ := aside (o := .cells #[.int .i64 x] 3) (j := p + 1) (m := 0) HS.out KL.out rfl ho1 hg1
                have HF1 := Lib.hid hf1
                have HB1 := Lib.hid hb1
                have HR := Lib.hid hrest
                have hck1 := (hb1.cell (p := ⟨b, off + k, none⟩) hbs).trans KC.out
                rw [KX.out] at hck1
                have hjs : (p : Int) + 1 ≤ (p : Int) + 1 := by omega
                have hjs0 : 0 ≤ (p : Int) + 1 := by omega
                clear ho1 hg1 hf1 hb1 hrest hck
                go_wp2
                go_region_law (first
                  | (refine step_app_one (w := w1.drew) rfl (.tmp 37) (.tmp 42) 22 rfl 3 (.int .i64 0) 8 Try.underlying22 int_info rfl (.int .i64 x) rfl rfl rfl HF1.out hz1 (by omega) (by omega) ?_; intro v2 w2 ho2 hg2; have HO2 := Lib.hid ho2; have HG2 := Lib.hid hg2; have HR2 := Lib.hid (HR.out w2 hg2); have hz2 : w.heap.size ≤ w2.heap.size := Nat.le_trans (by simpa using hz1) (Nat.le_trans (by simp) hg2.size); clear ho2 hg2)
                  | (refine step_app_ints rfl (.tmp 43) (.tmp 44) rfl rfl rfl HR2.out HO2.out hz2 (by omega) ?_; intro v3 w3 ho3 hg3; have HO3 := Lib.hid ho3; have HG3 := Lib.hid hg3; clear ho3 hg3))
                have hnext := Lib.hid (put_grown HB1.out HF1.out HG2.out HO2.out HG3.out HO3.out)
                clear HO2 HO3 HG2 HG3 HR2 HF1 hz1 hz2
                go_wp2
                go_roundw
                case rel => exact ⟨k + 1, by omega, by go_num, by rw [KT.out, hput.out]; exact hnext.out⟩
                case measure => simp [intOf]; omega
            · rcases hway with h0 | ⟨p, hp, hpx⟩
              · have t0 : decide (0 < j) = false := by simp; omega
                clear h0
                go_wp2
                go_quiet (fail)
                go_wp2_with (at_builtin; refine app_ints rfl _ _ rfl rfl rfl HT.out (World.ownsRow_nil _ wr.heap.size _ _) (Nat.le_refl _) (by omega) ?_)
                intro v1 w1 ho1 hg1
                obtain ⟨R, dr, rfl, hf1, hz1, hb1, hrest⟩ := aside (o := .cells #[.int .i64 x] 3) (j := j) (m := m) HS.out KL.out rfl ho1 hg1
                have HF1 := Lib.hid hf1
                have HB1 := Lib.hid hb1
                have HR := Lib.hid hrest
                have hck1 := (hb1.cell (p := ⟨b, off + k, none⟩) hbs).trans KC.out
                rw [KX.out] at hck1
                have hjs : (j : Int) ≤ (j : Int) + (s : Int) := by omega
                clear ho1 hg1 hf1 hb1 hrest hck
                go_wp2
                go_region_law (first
                  | (refine step_app_one (w := w1.drew) rfl (.tmp 37) (.tmp 42) 22 rfl 3 (.int .i64 0) 8 Try.underlying22 int_info rfl (.int .i64 x) rfl rfl rfl HF1.out hz1 (by omega) (by omega) ?_; intro v2 w2 ho2 hg2; have HO2 := Lib.hid ho2; have HG2 := Lib.hid hg2; have HR2 := Lib.hid (HR.out w2 hg2); have hz2 : w.heap.size ≤ w2.heap.size := Nat.le_trans (by simpa using hz1) (Nat.le_trans (by simp) hg2.size); clear ho2 hg2)
                  | (refine step_app_ints rfl (.tmp 43) (.tmp 44) rfl rfl rfl HR2.out HO2.out hz2 (by omega) ?_; intro v3 w3 ho3 hg3; have HO3 := Lib.hid ho3; have HG3 := Lib.hid hg3; clear ho3 hg3))
                have hnext := Lib.hid (put_grown HB1.out HF1.out HG2.out HO2.out HG3.out HO3.out)
                clear HO2 HO3 HG2 HG3 HR2 HF1 hz1 hz2
                go_wp2
                go_roundw
                case rel => exact ⟨k + 1, by omega, by go_num, by rw [KT.out, hput.out]; exact hnext.out⟩
                case measure => simp [intOf]; omega
              · obtain ⟨bb, oo, ebb, hbb, hcc⟩ := HI.out.at_ (k := p) (by omega)
                injection ebb with ebb
                injection ebb with e1 e2
                subst e1; subst e2
                subst hp
                obtain ⟨y, hy⟩ : ∃ y, S.getD p 0 = y := ⟨_, rfl⟩
                rw [hy] at hcc hpx
                rw [Nat.zero_add] at hcc
                clear hy
                go_wp2
                go_quiet (fail)
                go_wp2_with (at_builtin; refine app_ints rfl _ _ rfl rfl rfl HT.out (World.ownsRow_nil _ wr.heap.size _ _) (Nat.le_refl _) (by omega) ?_)
                intro v1 w1 ho1 hg1
                obtain ⟨R, dr, rfl, hf1, hz1, hb1, hrest⟩ := aside (o := .cells #[.int .i64 x] 3) (j := p + 1) (m := m) HS.out KL.out rfl ho1 hg1
                have HF1 := Lib.hid hf1
                have HB1 := Lib.hid hb1
                have HR := Lib.hid hrest
                have hck1 := (hb1.cell (p := ⟨b, off + k, none⟩) hbs).trans KC.out
                rw [KX.out] at hck1
                have hjs : (p : Int) + 1 ≤ (p : Int) + 1 + (s : Int) := by omega
                have hjs0 : 0 ≤ (p : Int) + 1 := by omega
                clear ho1 hg1 hf1 hb1 hrest hck
                go_wp2
                go_region_law (first
                  | (refine step_app_one (w := w1.drew) rfl (.tmp 37) (.tmp 42) 22 rfl 3 (.int .i64 0) 8 Try.underlying22 int_info rfl (.int .i64 x) rfl rfl rfl HF1.out hz1 (by omega) (by omega) ?_; intro v2 w2 ho2 hg2; have HO2 := Lib.hid ho2; have HG2 := Lib.hid hg2; have HR2 := Lib.hid (HR.out w2 hg2); have hz2 : w.heap.size ≤ w2.heap.size := Nat.le_trans (by simpa using hz1) (Nat.le_trans (by simp) hg2.size); clear ho2 hg2)
                  | (refine step_app_ints rfl (.tmp 43) (.tmp 44) rfl rfl rfl HR2.out HO2.out hz2 (by omega) ?_; intro v3 w3 ho3 hg3; have HO3 := Lib.hid ho3; have HG3 := Lib.hid hg3; clear ho3 hg3))
                have hnext := Lib.hid (put_grown HB1.out HF1.out HG2.out HO2.out HG3.out HO3.out)
                clear HO2 HO3 HG2 HG3 HR2 HF1 hz1 hz2
                go_wp2
                go_roundw
                case rel => exact ⟨k + 1, by omega, by go_num, by rw [KT.out, hput.out]; exact hnext.out⟩
                case measure => simp [intOf]; omega
    · obtain rfl : k = n := by omega
      rw [List.take_of_length_le (by have := HL.out; omega)] at hso
      have HS := Lib.hid hso
      obtain ⟨B, d, rfl, hd, hi⟩ := hso.form
      clear hso hi
      go_wp2
      go_ret
      exact ⟨_, rfl, HS.out.2.1, HS.out.2.2⟩
end Go.Proofs.Ytkmhkhmifecbdaa
