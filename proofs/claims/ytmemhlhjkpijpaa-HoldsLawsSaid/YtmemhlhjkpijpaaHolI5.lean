/- holds.truths at one kind of formula. holds.truths at one kind of formula. -/
import Derived.Test.YtmemhlhjkpijpaaHolH

namespace Go.Proofs.Ytmemhlhjkpijpaa
open Go.RowKit
set_option linter.unusedVariables false
set_option linter.unusedSimpArgs false
set_option maxRecDepth 100000
attribute [local go_sem] cell_set_ite Near.cell Near.frozen

set_option maxHeartbeats 8000000 in
theorem tru_both (a b : Mn) (B : Option Addr) (n d : Nat) (os : Nat → Ou) (hn : n ≤ 100000) (w : World) (ho : Outs w B n os)
    (IHa : ∀ (B : Option Addr) (d : Nat) (w : World), Outs w B n os → Calls Try.prog 17 #[a.val, .slice B n d] w (ListR n (fun i => .bool (soM os a i)) w))
    (IHb : ∀ (B : Option Addr) (d : Nat) (w : World), Outs w B n os → Calls Try.prog 17 #[b.val, .slice B n d] w (ListR n (fun i => .bool (soM os b i)) w))
    : Calls Try.prog 17 #[(Mn.both a b).val, .slice B n d] w (ListR n (fun i => .bool (soM os (.both a b) i)) w) := by
  have hmf : ∀ (fn : Fn) (first cap : Array Value) (w : World), (Instr.makeFunc fn first cap).run Try.prog w = .ok (.func fn first cap) w := fun _ _ _ _ => rfl
  rw [show (Mn.both a b).val = .iface 74 (.agg #[a.val, b.val]) from rfl]
  have hm : ∀ w : World, (method 217 74 (.agg #[a.val, b.val]) "pinchcock/holds.parts").run Try.prog w = .ok (78, .agg #[a.val, b.val]) w := fun _ => by kernel_rfl
  have as_atom : ∀ w : World, (Instr.typeAssert (.iface 74 (.agg #[a.val, b.val])) 44 62 true).run Try.prog w = .ok (.tuple #[.agg #[.int .i64 0, .int .i64 0], .bool false]) w := fun _ => by kernel_rfl
  have as_hazard : ∀ w : World, (Instr.typeAssert (.iface 74 (.agg #[a.val, b.val])) 44 66 true).run Try.prog w = .ok (.tuple #[.agg #[.int .i64 0], .bool false]) w := fun _ => by kernel_rfl
  have as_not : ∀ w : World, (Instr.typeAssert (.iface 74 (.agg #[a.val, b.val])) 44 70 true).run Try.prog w = .ok (.tuple #[.agg #[.nilIface], .bool false]) w := fun _ => by kernel_rfl
  have as_both : ∀ w : World, (Instr.typeAssert (.iface 74 (.agg #[a.val, b.val])) 44 74 true).run Try.prog w = .ok (.tuple #[.agg #[a.val, b.val], .bool true]) w := fun _ => by kernel_rfl
  have HO := Lib.hid (fun w' (hb : Below w.heap.size w w') => ho.below hb)
  have A0 := below_alloc_on (below_alloc_on (Below.refl w.heap.size w) (.cells #[.slice B n d] 23)) (.cells #[.slice none 0 0] 56)
  clear ho
  have Ha := Lib.hid IHa
  clear IHa
  have Hb := Lib.hid IHb
  clear IHb
  go_enter Try.func17, Try.ntmps17
  have P0 := (box_new w #[.slice B n d] 23).alloc (.cells #[.slice none 0 0] 56)
  have Q0 := box_at (w.alloc (.cells #[.slice B n d] 23)) #[.slice none 0 0] 56 (g := w.heap.size + 1) (by simp)
  go_wp2_with (go_at_call 78; refine (pa_two a b _).mono ?_; rintro e w1 ⟨gp, rfl, CP, hgp, hb⟩; have A1 := below_call A0 hb; have P1 := P0.below hb; have Q1 := Q0.below hb; have lgp := CP.lt; have HCP := Lib.hid CP; clear hb P0 Q0 A0 CP)
  obtain ⟨p, hp⟩ : ∃ p, w.heap.size = p := ⟨_, rfl⟩
  have hpw : w.heap.size ≤ p := by omega
  simp only [hp] at P1 Q1
  simp only [hp]
  have hgp : p + 2 ≤ gp := by simp at hgp; omega
  clear hp
  go_loopg [7, 23] 2 (fun gk x i wr => ∃ (k : Nat) (v : Value) (vs : List Value), k ≤ 2 ∧ gk = 2 - k ∧ i = .int .i64 k ∧ TrS w1 (p + 1) n (fun i => if i = 0 then soM os a else soM os b) k v vs wr)
  case atStart => exact ⟨0, _, _, by omega, rfl, rfl, TrS.first n _ Q1⟩
  case round =>
    obtain ⟨k, v, vs, hk, rfl, rfl, hs⟩ := hrel
    have Br := A1.trans (hs.bel.mono (by omega))
    by_cases hlt : k < 2
    · have lq := hs.box.1
      have s3 := hs.bel.size
      have c3 : wr.cell? ⟨p, 0, none⟩ = some (.slice B n d) := (World.cell?_of_block (hs.bel.block p (by omega))).trans (P1.2.1 0)
      have l3 : p < wr.heap.size := by omega
      have c5 : wr.cell? ⟨p + 1, 0, none⟩ = some v := hs.box.2.1 0
      have f5 : wr.frozen? ⟨p + 1, 0, none⟩ = false := hs.box.2.2 0
      have cP : wr.cell? ⟨gp, k, none⟩ = some ((fun i => if i = 0 then a.val else b.val) k) := (World.cell?_of_block (hs.oth gp (by omega) lgp)).trans (HCP.out.cell k hlt)
      have lP : gp < wr.heap.size := by omega
      have HOW := Lib.hid (HO.out wr Br)
      have HS := Lib.hid hs
      clear hs
      obtain rfl | rfl : k = 0 ∨ k = 1 := by omega
      · have HI := Lib.hid (fun w' (hb : Below wr.heap.size wr w') => Ha.out B d w' (HOW.out.below hb))
        have hl := HS.out.len
        have HL := Lib.hid hl
        have hl9 : vs.length ≤ 9 := by omega
        clear hl
        go_wp2_with (fail)
        first
        | go_region_law (first
          | ((go_simp; go_at_call 17; refine (HI.out _ ((Below.refl _ _).drew)).mono ?_; rintro e w3 ⟨g3, rfl, C3, hg3, hb0⟩; (have hb : Below wr.heap.size wr w3 := ((Below.refl wr.heap.size wr).drew).trans (hb0.mono (Nat.le_refl _))); clear hb0; (have S3 := HS.out.below (w3 := w3) hb); (have d5 : w3.cell? ⟨p + 1, 0, none⟩ = some v := S3.box.2.1 0); (have sz3 : w1.heap.size ≤ w3.heap.size := by have := hb.size; omega); (have l5 : p + 1 < w3.heap.size := by have := hb.size; omega); (have HS3 := Lib.hid S3); (have HC3 := Lib.hid C3); (have hg1 : w1.heap.size ≤ g3 := by have hx : wr.heap.size ≤ g3 := hg3; omega); (have HN3 := Lib.hid (show some g3 ≠ Value.ownBlock v from fun e => by have := (HS.out.own.lt g3 e.symm).2; have hx : wr.heap.size ≤ g3 := hg3; omega)); clear hb S3 C3))
          | (refine step_app_at rfl (.tmp 27) (.tmp 31) 56 40 _ _ rfl Try.underlying56 bools_info rfl (.slice (some ⟨g3, 0, none⟩) n n) rfl (by simp [Act.eval, Act.put]) (by simp [Act.eval, Act.put]) HS3.out.own sz3 (by omega) (by omega) ?_; intro v' w4 h1 h2 h3; (obtain ⟨Pv, dv, rfl, _⟩ := own_form h1); (obtain ⟨e5, e6, e7⟩ := HS3.out.slot h2); (have HS4 := Lib.hid (HS3.out.next HC3.out HN3.out hg1 rfl h1 h2 h3)); clear h1 h2 h3))
        | fail
        all_goals
          clear d5 sz3 l5 HS3 HC3 hg1 HN3 hg3 e5 e6 e7
          go_wp2_with (fail)
          go_roundg (2 - (0 + 1))
          case measure => omega
          case rel => exact ⟨0 + 1, _, _, by omega, by omega, by go_num, HS4.out⟩
      · have HI := Lib.hid (fun w' (hb : Below wr.heap.size wr w') => Hb.out B d w' (HOW.out.below hb))
        have hl := HS.out.len
        have HL := Lib.hid hl
        have hl9 : vs.length ≤ 9 := by omega
        clear hl
        go_wp2_with (fail)
        first
        | go_region_law (first
          | ((go_simp; go_at_call 17; refine (HI.out _ ((Below.refl _ _).drew)).mono ?_; rintro e w3 ⟨g3, rfl, C3, hg3, hb0⟩; (have hb : Below wr.heap.size wr w3 := ((Below.refl wr.heap.size wr).drew).trans (hb0.mono (Nat.le_refl _))); clear hb0; (have S3 := HS.out.below (w3 := w3) hb); (have d5 : w3.cell? ⟨p + 1, 0, none⟩ = some v := S3.box.2.1 0); (have sz3 : w1.heap.size ≤ w3.heap.size := by have := hb.size; omega); (have l5 : p + 1 < w3.heap.size := by have := hb.size; omega); (have HS3 := Lib.hid S3); (have HC3 := Lib.hid C3); (have hg1 : w1.heap.size ≤ g3 := by have hx : wr.heap.size ≤ g3 := hg3; omega); (have HN3 := Lib.hid (show some g3 ≠ Value.ownBlock v from fun e => by have := (HS.out.own.lt g3 e.symm).2; have hx : wr.heap.size ≤ g3 := hg3; omega)); clear hb S3 C3))
          | (refine step_app_at rfl (.tmp 27) (.tmp 31) 56 40 _ _ rfl Try.underlying56 bools_info rfl (.slice (some ⟨g3, 0, none⟩) n n) rfl (by simp [Act.eval, Act.put]) (by simp [Act.eval, Act.put]) HS3.out.own sz3 (by omega) (by omega) ?_; intro v' w4 h1 h2 h3; (obtain ⟨Pv, dv, rfl, _⟩ := own_form h1); (obtain ⟨e5, e6, e7⟩ := HS3.out.slot h2); (have HS4 := Lib.hid (HS3.out.next HC3.out HN3.out hg1 rfl h1 h2 h3)); clear h1 h2 h3))
        | fail
        all_goals
          clear d5 sz3 l5 HS3 HC3 hg1 HN3 hg3 e5 e6 e7
          go_wp2_with (fail)
          go_roundg (2 - (1 + 1))
          case measure => omega
          case rel => exact ⟨1 + 1, _, _, by omega, by omega, by go_num, HS4.out⟩
    · obtain rfl : k = 2 := by omega
      have lq := hs.box.1
      have c3 : wr.cell? ⟨p, 0, none⟩ = some (.slice B n d) := (World.cell?_of_block (hs.bel.block p (by omega))).trans (P1.2.1 0)
      have l3 : p < wr.heap.size := by omega
      have HP := Lib.hid (show Held wr p #[.slice B n d] from ⟨l3, fun i hi => (show i = 0 by simpa using hi) ▸ c3⟩)
      have hsz := Br.size
      have HB := Lib.hid (hs.blw (by omega))
      clear hs hm
      obtain ⟨T1, x1, fa⟩ := a.form
      rw [fa]
      simp only [fa] at as_atom as_hazard as_not as_both
      clear fa
      obtain ⟨T2, x2, fb⟩ := b.form
      rw [fb]
      simp only [fb] at as_atom as_hazard as_not as_both
      clear fb
      go_wp2_with (fail)
      have A5 : Below wr.heap.size wr _ := below_alloc_on (Below.refl _ _) (.cells #[.iface T1 x1, .iface T2 x2] 74)
      refine (ho_each 33 #[.pointer (some ⟨p + 1, 0, none⟩)] (enters_of Try.func33 (by kernel_rfl) rfl) (soM os (.both a b)) B n d _ hn (fun W k hk hb => ?_)).mono ?_
      · have B6 : Below wr.heap.size wr W := below_call A5 hb
        have A6 : Below w.heap.size w W := Br.trans (B6.mono hsz)
        exact tr_both (p + 1) n k _ W hk (HB.out.below B6)
      rintro e w5 ⟨g5, rfl, C5, hg5, hb5⟩
      have HX := Lib.hid (show Col w5 g5 n (fun i => .bool (soM os (.both a b) i)) ∧ w.heap.size ≤ g5 ∧ Below w.heap.size w w5 from ⟨C5, by have := A5.size; omega, Br.trans ((below_call A5 hb5).mono hsz)⟩)
      clear C5 hg5 hb5 A5
      go_wp2_with (fail)
      all_goals go_ret
      all_goals exact ⟨g5, rfl, HX.out⟩
end Go.Proofs.Ytmemhlhjkpijpaa

namespace Go.Proofs.Ytmemhlhjkpijpaa
open Go.RowKit
set_option linter.unusedVariables false
set_option linter.unusedSimpArgs false
set_option maxRecDepth 100000
attribute [local go_sem] cell_set_ite Near.cell Near.frozen

set_option maxHeartbeats 8000000 in
theorem tru_either (a b : Mn) (B : Option Addr) (n d : Nat) (os : Nat → Ou) (hn : n ≤ 100000) (w : World) (ho : Outs w B n os)
    (IHa : ∀ (B : Option Addr) (d : Nat) (w : World), Outs w B n os → Calls Try.prog 17 #[a.val, .slice B n d] w (ListR n (fun i => .bool (soM os a i)) w))
    (IHb : ∀ (B : Option Addr) (d : Nat) (w : World), Outs w B n os → Calls Try.prog 17 #[b.val, .slice B n d] w (ListR n (fun i => .bool (soM os b i)) w))
    : Calls Try.prog 17 #[(Mn.either a b).val, .slice B n d] w (ListR n (fun i => .bool (soM os (.either a b) i)) w) := by
  have hmf : ∀ (fn : Fn) (first cap : Array Value) (w : World), (Instr.makeFunc fn first cap).run Try.prog w = .ok (.func fn first cap) w := fun _ _ _ _ => rfl
  rw [show (Mn.either a b).val = .iface 75 (.agg #[a.val, b.val]) from rfl]
  have hm : ∀ w : World, (method 217 75 (.agg #[a.val, b.val]) "pinchcock/holds.parts").run Try.prog w = .ok (78, .agg #[a.val, b.val]) w := fun _ => by kernel_rfl
  have as_atom : ∀ w : World, (Instr.typeAssert (.iface 75 (.agg #[a.val, b.val])) 44 62 true).run Try.prog w = .ok (.tuple #[.agg #[.int .i64 0, .int .i64 0], .bool false]) w := fun _ => by kernel_rfl
  have as_hazard : ∀ w : World, (Instr.typeAssert (.iface 75 (.agg #[a.val, b.val])) 44 66 true).run Try.prog w = .ok (.tuple #[.agg #[.int .i64 0], .bool false]) w := fun _ => by kernel_rfl
  have as_not : ∀ w : World, (Instr.typeAssert (.iface 75 (.agg #[a.val, b.val])) 44 70 true).run Try.prog w = .ok (.tuple #[.agg #[.nilIface], .bool false]) w := fun _ => by kernel_rfl
  have as_both : ∀ w : World, (Instr.typeAssert (.iface 75 (.agg #[a.val, b.val])) 44 74 true).run Try.prog w = .ok (.tuple #[.agg #[.nilIface, .nilIface], .bool false]) w := fun _ => by kernel_rfl
  have as_either : ∀ w : World, (Instr.typeAssert (.iface 75 (.agg #[a.val, b.val])) 44 75 true).run Try.prog w = .ok (.tuple #[.agg #[a.val, b.val], .bool true]) w := fun _ => by kernel_rfl
  have HO := Lib.hid (fun w' (hb : Below w.heap.size w w') => ho.below hb)
  have A0 := below_alloc_on (below_alloc_on (Below.refl w.heap.size w) (.cells #[.slice B n d] 23)) (.cells #[.slice none 0 0] 56)
  clear ho
  have Ha := Lib.hid IHa
  clear IHa
  have Hb := Lib.hid IHb
  clear IHb
  go_enter Try.func17, Try.ntmps17
  have P0 := (box_new w #[.slice B n d] 23).alloc (.cells #[.slice none 0 0] 56)
  have Q0 := box_at (w.alloc (.cells #[.slice B n d] 23)) #[.slice none 0 0] 56 (g := w.heap.size + 1) (by simp)
  go_wp2_with (go_at_call 78; refine (pa_two a b _).mono ?_; rintro e w1 ⟨gp, rfl, CP, hgp, hb⟩; have A1 := below_call A0 hb; have P1 := P0.below hb; have Q1 := Q0.below hb; have lgp := CP.lt; have HCP := Lib.hid CP; clear hb P0 Q0 A0 CP)
  obtain ⟨p, hp⟩ : ∃ p, w.heap.size = p := ⟨_, rfl⟩
  have hpw : w.heap.size ≤ p := by omega
  simp only [hp] at P1 Q1
  simp only [hp]
  have hgp : p + 2 ≤ gp := by simp at hgp; omega
  clear hp
  go_loopg [7, 23] 2 (fun gk x i wr => ∃ (k : Nat) (v : Value) (vs : List Value), k ≤ 2 ∧ gk = 2 - k ∧ i = .int .i64 k ∧ TrS w1 (p + 1) n (fun i => if i = 0 then soM os a else soM os b) k v vs wr)
  case atStart => exact ⟨0, _, _, by omega, rfl, rfl, TrS.first n _ Q1⟩
  case round =>
    obtain ⟨k, v, vs, hk, rfl, rfl, hs⟩ := hrel
    have Br := A1.trans (hs.bel.mono (by omega))
    by_cases hlt : k < 2
    · have lq := hs.box.1
      have s3 := hs.bel.size
      have c3 : wr.cell? ⟨p, 0, none⟩ = some (.slice B n d) := (World.cell?_of_block (hs.bel.block p (by omega))).trans (P1.2.1 0)
      have l3 : p < wr.heap.size := by omega
      have c5 : wr.cell? ⟨p + 1, 0, none⟩ = some v := hs.box.2.1 0
      have f5 : wr.frozen? ⟨p + 1, 0, none⟩ = false := hs.box.2.2 0
      have cP : wr.cell? ⟨gp, k, none⟩ = some ((fun i => if i = 0 then a.val else b.val) k) := (World.cell?_of_block (hs.oth gp (by omega) lgp)).trans (HCP.out.cell k hlt)
      have lP : gp < wr.heap.size := by omega
      have HOW := Lib.hid (HO.out wr Br)
      have HS := Lib.hid hs
      clear hs
      obtain rfl | rfl : k = 0 ∨ k = 1 := by omega
      · have HI := Lib.hid (fun w' (hb : Below wr.heap.size wr w') => Ha.out B d w' (HOW.out.below hb))
        have hl := HS.out.len
        have HL := Lib.hid hl
        have hl9 : vs.length ≤ 9 := by omega
        clear hl
        go_wp2_with (fail)
        first
        | go_region_law (first
          | ((go_simp; go_at_call 17; refine (HI.out _ ((Below.refl _ _).drew)).mono ?_; rintro e w3 ⟨g3, rfl, C3, hg3, hb0⟩; (have hb : Below wr.heap.size wr w3 := ((Below.refl wr.heap.size wr).drew).trans (hb0.mono (Nat.le_refl _))); clear hb0; (have S3 := HS.out.below (w3 := w3) hb); (have d5 : w3.cell? ⟨p + 1, 0, none⟩ = some v := S3.box.2.1 0); (have sz3 : w1.heap.size ≤ w3.heap.size := by have := hb.size; omega); (have l5 : p + 1 < w3.heap.size := by have := hb.size; omega); (have HS3 := Lib.hid S3); (have HC3 := Lib.hid C3); (have hg1 : w1.heap.size ≤ g3 := by have hx : wr.heap.size ≤ g3 := hg3; omega); (have HN3 := Lib.hid (show some g3 ≠ Value.ownBlock v from fun e => by have := (HS.out.own.lt g3 e.symm).2; have hx : wr.heap.size ≤ g3 := hg3; omega)); clear hb S3 C3))
          | (refine step_app_at rfl (.tmp 27) (.tmp 31) 56 40 _ _ rfl Try.underlying56 bools_info rfl (.slice (some ⟨g3, 0, none⟩) n n) rfl (by simp [Act.eval, Act.put]) (by simp [Act.eval, Act.put]) HS3.out.own sz3 (by omega) (by omega) ?_; intro v' w4 h1 h2 h3; (obtain ⟨Pv, dv, rfl, _⟩ := own_form h1); (obtain ⟨e5, e6, e7⟩ := HS3.out.slot h2); (have HS4 := Lib.hid (HS3.out.next HC3.out HN3.out hg1 rfl h1 h2 h3)); clear h1 h2 h3))
        | fail
        all_goals
          clear d5 sz3 l5 HS3 HC3 hg1 HN3 hg3 e5 e6 e7
          go_wp2_with (fail)
          go_roundg (2 - (0 + 1))
          case measure => omega
          case rel => exact ⟨0 + 1, _, _, by omega, by omega, by go_num, HS4.out⟩
      · have HI := Lib.hid (fun w' (hb : Below wr.heap.size wr w') => Hb.out B d w' (HOW.out.below hb))
        have hl := HS.out.len
        have HL := Lib.hid hl
        have hl9 : vs.length ≤ 9 := by omega
        clear hl
        go_wp2_with (fail)
        first
        | go_region_law (first
          | ((go_simp; go_at_call 17; refine (HI.out _ ((Below.refl _ _).drew)).mono ?_; rintro e w3 ⟨g3, rfl, C3, hg3, hb0⟩; (have hb : Below wr.heap.size wr w3 := ((Below.refl wr.heap.size wr).drew).trans (hb0.mono (Nat.le_refl _))); clear hb0; (have S3 := HS.out.below (w3 := w3) hb); (have d5 : w3.cell? ⟨p + 1, 0, none⟩ = some v := S3.box.2.1 0); (have sz3 : w1.heap.size ≤ w3.heap.size := by have := hb.size; omega); (have l5 : p + 1 < w3.heap.size := by have := hb.size; omega); (have HS3 := Lib.hid S3); (have HC3 := Lib.hid C3); (have hg1 : w1.heap.size ≤ g3 := by have hx : wr.heap.size ≤ g3 := hg3; omega); (have HN3 := Lib.hid (show some g3 ≠ Value.ownBlock v from fun e => by have := (HS.out.own.lt g3 e.symm).2; have hx : wr.heap.size ≤ g3 := hg3; omega)); clear hb S3 C3))
          | (refine step_app_at rfl (.tmp 27) (.tmp 31) 56 40 _ _ rfl Try.underlying56 bools_info rfl (.slice (some ⟨g3, 0, none⟩) n n) rfl (by simp [Act.eval, Act.put]) (by simp [Act.eval, Act.put]) HS3.out.own sz3 (by omega) (by omega) ?_; intro v' w4 h1 h2 h3; (obtain ⟨Pv, dv, rfl, _⟩ := own_form h1); (obtain ⟨e5, e6, e7⟩ := HS3.out.slot h2); (have HS4 := Lib.hid (HS3.out.next HC3.out HN3.out hg1 rfl h1 h2 h3)); clear h1 h2 h3))
        | fail
        all_goals
          clear d5 sz3 l5 HS3 HC3 hg1 HN3 hg3 e5 e6 e7
          go_wp2_with (fail)
          go_roundg (2 - (1 + 1))
          case measure => omega
          case rel => exact ⟨1 + 1, _, _, by omega, by omega, by go_num, HS4.out⟩
    · obtain rfl : k = 2 := by omega
      have lq := hs.box.1
      have c3 : wr.cell? ⟨p, 0, none⟩ = some (.slice B n d) := (World.cell?_of_block (hs.bel.block p (by omega))).trans (P1.2.1 0)
      have l3 : p < wr.heap.size := by omega
      have HP := Lib.hid (show Held wr p #[.slice B n d] from ⟨l3, fun i hi => (show i = 0 by simpa using hi) ▸ c3⟩)
      have hsz := Br.size
      have HB := Lib.hid (hs.blw (by omega))
      clear hs hm
      obtain ⟨T1, x1, fa⟩ := a.form
      rw [fa]
      simp only [fa] at as_atom as_hazard as_not as_both as_either
      clear fa
      obtain ⟨T2, x2, fb⟩ := b.form
      rw [fb]
      simp only [fb] at as_atom as_hazard as_not as_both as_either
      clear fb
      go_wp2_with (fail)
      have A5 : Below wr.heap.size wr _ := below_alloc_on (Below.refl _ _) (.cells #[.iface T1 x1, .iface T2 x2] 75)
      refine (ho_each 34 #[.pointer (some ⟨p + 1, 0, none⟩)] (enters_of Try.func34 (by kernel_rfl) rfl) (soM os (.either a b)) B n d _ hn (fun W k hk hb => ?_)).mono ?_
      · have B6 : Below wr.heap.size wr W := below_call A5 hb
        have A6 : Below w.heap.size w W := Br.trans (B6.mono hsz)
        exact tr_either (p + 1) n k _ W hk (HB.out.below B6)
      rintro e w5 ⟨g5, rfl, C5, hg5, hb5⟩
      have HX := Lib.hid (show Col w5 g5 n (fun i => .bool (soM os (.either a b) i)) ∧ w.heap.size ≤ g5 ∧ Below w.heap.size w w5 from ⟨C5, by have := A5.size; omega, Br.trans ((below_call A5 hb5).mono hsz)⟩)
      clear C5 hg5 hb5 A5
      go_wp2_with (fail)
      all_goals go_ret
      all_goals exact ⟨g5, rfl, HX.out⟩
end Go.Proofs.Ytmemhlhjkpijpaa
