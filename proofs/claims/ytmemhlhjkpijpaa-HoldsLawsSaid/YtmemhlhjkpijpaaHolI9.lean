/- holds.truths at one kind of formula. holds.truths at one kind of formula. holds.truths at one kind of formula. -/
import Derived.Test.YtmemhlhjkpijpaaHolH

namespace Go.Proofs.Ytmemhlhjkpijpaa
open Go.RowKit
set_option linter.unusedVariables false
set_option linter.unusedSimpArgs false
set_option maxRecDepth 100000
attribute [local go_sem] cell_set_ite Near.cell Near.frozen

set_option maxHeartbeats 8000000 in
theorem tru_atom (what least : Int) (B : Option Addr) (n d : Nat) (os : Nat → Ou) (hn : n ≤ 100000) (w : World) (ho : Outs w B n os)
    : Calls Try.prog 17 #[(Mn.atom what least).val, .slice B n d] w (ListR n (fun i => .bool (soM os (.atom what least) i)) w) := by
  have hmf : ∀ (fn : Fn) (first cap : Array Value) (w : World), (Instr.makeFunc fn first cap).run Try.prog w = .ok (.func fn first cap) w := fun _ _ _ _ => rfl
  rw [show (Mn.atom what least).val = .iface 62 (.agg #[.int .i64 what, .int .i64 least]) from rfl]
  have hm : ∀ w : World, (method 217 62 (.agg #[.int .i64 what, .int .i64 least]) "pinchcock/holds.parts").run Try.prog w = .ok (76, .agg #[]) w := fun _ => by kernel_rfl
  have as_atom : ∀ w : World, (Instr.typeAssert (.iface 62 (.agg #[.int .i64 what, .int .i64 least])) 44 62 true).run Try.prog w = .ok (.tuple #[.agg #[.int .i64 what, .int .i64 least], .bool true]) w := fun _ => by kernel_rfl
  have HO := Lib.hid (fun w' (hb : Below w.heap.size w w') => ho.below hb)
  have A0 := below_alloc_on (below_alloc_on (Below.refl w.heap.size w) (.cells #[.slice B n d] 23)) (.cells #[.slice none 0 0] 56)
  clear ho
  go_enter Try.func17, Try.ntmps17
  have P0 := (box_new w #[.slice B n d] 23).alloc (.cells #[.slice none 0 0] 56)
  have Q0 := box_at (w.alloc (.cells #[.slice B n d] 23)) #[.slice none 0 0] 56 (g := w.heap.size + 1) (by simp)
  go_wp2_with (go_at_call 76; refine (pa_none _).mono ?_; rintro e w1 ⟨rfl, hb⟩; have A1 := below_call A0 hb; have P1 := P0.below hb; have Q1 := Q0.below hb; clear hb P0 Q0 A0)
  obtain ⟨p, hp⟩ : ∃ p, w.heap.size = p := ⟨_, rfl⟩
  have hpw : w.heap.size ≤ p := by omega
  simp only [hp] at P1 Q1
  simp only [hp]
  clear hp
  go_loopg [7, 23] 0 (fun gk x i wr => ∃ (k : Nat) (v : Value) (vs : List Value), k ≤ 0 ∧ gk = 0 - k ∧ i = .int .i64 k ∧ TrS w1 (p + 1) n (fun _ _ => false) k v vs wr)
  case atStart => exact ⟨0, _, _, by omega, rfl, rfl, TrS.first n _ Q1⟩
  case round =>
    obtain ⟨k, v, vs, hk, rfl, rfl, hs⟩ := hrel
    have Br := A1.trans (hs.bel.mono (by omega))
    obtain rfl : k = 0 := by omega
    have lq := hs.box.1
    have c3 : wr.cell? ⟨p, 0, none⟩ = some (.slice B n d) := (World.cell?_of_block (hs.bel.block p (by omega))).trans (P1.2.1 0)
    have l3 : p < wr.heap.size := by omega
    have HP := Lib.hid (show Held wr p #[.slice B n d] from ⟨l3, fun i hi => (show i = 0 by simpa using hi) ▸ c3⟩)
    have hsz := Br.size
    clear hs
    go_wp2_with (fail)
    have A5 : Below wr.heap.size wr _ := below_alloc_on (Below.refl _ _) (.cells #[.int .i64 what, .int .i64 least] 62)
    refine (ho_each 30 #[.pointer (some ⟨p, 0, none⟩), .pointer (some ⟨wr.heap.size, 0, none⟩)] (enters_of Try.func30 (by kernel_rfl) rfl) (soM os (.atom what least)) B n d _ hn (fun W k hk hb => ?_)).mono ?_
    · have B6 : Below wr.heap.size wr W := below_call A5 hb
      have A6 : Below w.heap.size w W := Br.trans (B6.mono hsz)
      exact tr_atom p wr.heap.size n d k B os what least W hk (HO.out W A6) (HP.out.below B6) ((Held.of_box (box_new wr _ _)).below hb)
    rintro e w5 ⟨g5, rfl, C5, hg5, hb5⟩
    have HX := Lib.hid (show Col w5 g5 n (fun i => .bool (soM os (.atom what least) i)) ∧ w.heap.size ≤ g5 ∧ Below w.heap.size w w5 from ⟨C5, by have := A5.size; omega, Br.trans ((below_call A5 hb5).mono hsz)⟩)
    clear C5 hg5 hb5 A5
    go_wp2_with (fail)
    all_goals go_ret
    all_goals exact ⟨g5, rfl, HX.out⟩
end Go.Proofs.Ytmemhlhjkpijpaa

namespace Go.Proofs.Ytmemhlhjkpijpaa
open Go.RowKit
set_option linter.unusedVariables false
set_option linter.unusedSimpArgs false
set_option maxRecDepth 100000
attribute [local go_sem] cell_set_ite Near.cell Near.frozen

set_option maxHeartbeats 8000000 in
theorem tru_hazard (bit : Int) (B : Option Addr) (n d : Nat) (os : Nat → Ou) (hn : n ≤ 100000) (w : World) (ho : Outs w B n os)
    : Calls Try.prog 17 #[(Mn.hazard bit).val, .slice B n d] w (ListR n (fun i => .bool (soM os (.hazard bit) i)) w) := by
  have hmf : ∀ (fn : Fn) (first cap : Array Value) (w : World), (Instr.makeFunc fn first cap).run Try.prog w = .ok (.func fn first cap) w := fun _ _ _ _ => rfl
  rw [show (Mn.hazard bit).val = .iface 66 (.agg #[.int .i64 bit]) from rfl]
  have hm : ∀ w : World, (method 217 66 (.agg #[.int .i64 bit]) "pinchcock/holds.parts").run Try.prog w = .ok (76, .agg #[]) w := fun _ => by kernel_rfl
  have as_atom : ∀ w : World, (Instr.typeAssert (.iface 66 (.agg #[.int .i64 bit])) 44 62 true).run Try.prog w = .ok (.tuple #[.agg #[.int .i64 0, .int .i64 0], .bool false]) w := fun _ => by kernel_rfl
  have as_hazard : ∀ w : World, (Instr.typeAssert (.iface 66 (.agg #[.int .i64 bit])) 44 66 true).run Try.prog w = .ok (.tuple #[.agg #[.int .i64 bit], .bool true]) w := fun _ => by kernel_rfl
  have HO := Lib.hid (fun w' (hb : Below w.heap.size w w') => ho.below hb)
  have A0 := below_alloc_on (below_alloc_on (Below.refl w.heap.size w) (.cells #[.slice B n d] 23)) (.cells #[.slice none 0 0] 56)
  clear ho
  go_enter Try.func17, Try.ntmps17
  have P0 := (box_new w #[.slice B n d] 23).alloc (.cells #[.slice none 0 0] 56)
  have Q0 := box_at (w.alloc (.cells #[.slice B n d] 23)) #[.slice none 0 0] 56 (g := w.heap.size + 1) (by simp)
  go_wp2_with (go_at_call 76; refine (pa_none _).mono ?_; rintro e w1 ⟨rfl, hb⟩; have A1 := below_call A0 hb; have P1 := P0.below hb; have Q1 := Q0.below hb; clear hb P0 Q0 A0)
  obtain ⟨p, hp⟩ : ∃ p, w.heap.size = p := ⟨_, rfl⟩
  have hpw : w.heap.size ≤ p := by omega
  simp only [hp] at P1 Q1
  simp only [hp]
  clear hp
  go_loopg [7, 23] 0 (fun gk x i wr => ∃ (k : Nat) (v : Value) (vs : List Value), k ≤ 0 ∧ gk = 0 - k ∧ i = .int .i64 k ∧ TrS w1 (p + 1) n (fun _ _ => false) k v vs wr)
  case atStart => exact ⟨0, _, _, by omega, rfl, rfl, TrS.first n _ Q1⟩
  case round =>
    obtain ⟨k, v, vs, hk, rfl, rfl, hs⟩ := hrel
    have Br := A1.trans (hs.bel.mono (by omega))
    obtain rfl : k = 0 := by omega
    have lq := hs.box.1
    have c3 : wr.cell? ⟨p, 0, none⟩ = some (.slice B n d) := (World.cell?_of_block (hs.bel.block p (by omega))).trans (P1.2.1 0)
    have l3 : p < wr.heap.size := by omega
    have HP := Lib.hid (show Held wr p #[.slice B n d] from ⟨l3, fun i hi => (show i = 0 by simpa using hi) ▸ c3⟩)
    have hsz := Br.size
    clear hs
    go_wp2_with (fail)
    have A5 : Below wr.heap.size wr _ := below_alloc_on (Below.refl _ _) (.cells #[.int .i64 bit] 66)
    refine (ho_each 31 #[.pointer (some ⟨p, 0, none⟩), .pointer (some ⟨wr.heap.size, 0, none⟩)] (enters_of Try.func31 (by kernel_rfl) rfl) (soM os (.hazard bit)) B n d _ hn (fun W k hk hb => ?_)).mono ?_
    · have B6 : Below wr.heap.size wr W := below_call A5 hb
      have A6 : Below w.heap.size w W := Br.trans (B6.mono hsz)
      exact tr_hazard p wr.heap.size n d k B os bit W hk (HO.out W A6) (HP.out.below B6) ((Held.of_box (box_new wr _ _)).below hb)
    rintro e w5 ⟨g5, rfl, C5, hg5, hb5⟩
    have HX := Lib.hid (show Col w5 g5 n (fun i => .bool (soM os (.hazard bit) i)) ∧ w.heap.size ≤ g5 ∧ Below w.heap.size w w5 from ⟨C5, by have := A5.size; omega, Br.trans ((below_call A5 hb5).mono hsz)⟩)
    clear C5 hg5 hb5 A5
    go_wp2_with (fail)
    all_goals go_ret
    all_goals exact ⟨g5, rfl, HX.out⟩
end Go.Proofs.Ytmemhlhjkpijpaa

namespace Go.Proofs.Ytmemhlhjkpijpaa
open Go.RowKit
set_option linter.unusedVariables false
set_option linter.unusedSimpArgs false
set_option maxRecDepth 100000
attribute [local go_sem] cell_set_ite Near.cell Near.frozen

set_option maxHeartbeats 8000000 in
theorem tru_whole (B : Option Addr) (n d : Nat) (os : Nat → Ou) (hn : n ≤ 100000) (w : World) (ho : Outs w B n os)
    : Calls Try.prog 17 #[(Mn.whole).val, .slice B n d] w (ListR n (fun i => .bool (soM os (.whole) i)) w) := by
  have hmf : ∀ (fn : Fn) (first cap : Array Value) (w : World), (Instr.makeFunc fn first cap).run Try.prog w = .ok (.func fn first cap) w := fun _ _ _ _ => rfl
  rw [show (Mn.whole).val = .iface 96 (.agg #[]) from rfl]
  have hm : ∀ w : World, (method 217 96 (.agg #[]) "pinchcock/holds.parts").run Try.prog w = .ok (76, .agg #[]) w := fun _ => by kernel_rfl
  have as_atom : ∀ w : World, (Instr.typeAssert (.iface 96 (.agg #[])) 44 62 true).run Try.prog w = .ok (.tuple #[.agg #[.int .i64 0, .int .i64 0], .bool false]) w := fun _ => by kernel_rfl
  have as_hazard : ∀ w : World, (Instr.typeAssert (.iface 96 (.agg #[])) 44 66 true).run Try.prog w = .ok (.tuple #[.agg #[.int .i64 0], .bool false]) w := fun _ => by kernel_rfl
  have as_not : ∀ w : World, (Instr.typeAssert (.iface 96 (.agg #[])) 44 70 true).run Try.prog w = .ok (.tuple #[.agg #[.nilIface], .bool false]) w := fun _ => by kernel_rfl
  have as_both : ∀ w : World, (Instr.typeAssert (.iface 96 (.agg #[])) 44 74 true).run Try.prog w = .ok (.tuple #[.agg #[.nilIface, .nilIface], .bool false]) w := fun _ => by kernel_rfl
  have as_either : ∀ w : World, (Instr.typeAssert (.iface 96 (.agg #[])) 44 75 true).run Try.prog w = .ok (.tuple #[.agg #[.nilIface, .nilIface], .bool false]) w := fun _ => by kernel_rfl
  have as_once : ∀ w : World, (Instr.typeAssert (.iface 96 (.agg #[])) 44 77 true).run Try.prog w = .ok (.tuple #[.agg #[.nilIface, .int .i64 0], .bool false]) w := fun _ => by kernel_rfl
  have as_always : ∀ w : World, (Instr.typeAssert (.iface 96 (.agg #[])) 44 79 true).run Try.prog w = .ok (.tuple #[.agg #[.nilIface, .int .i64 0], .bool false]) w := fun _ => by kernel_rfl
  have as_since : ∀ w : World, (Instr.typeAssert (.iface 96 (.agg #[])) 44 80 true).run Try.prog w = .ok (.tuple #[.agg #[.nilIface, .nilIface], .bool false]) w := fun _ => by kernel_rfl
  have HO := Lib.hid (fun w' (hb : Below w.heap.size w w') => ho.below hb)
  have A0 := below_alloc_on (below_alloc_on (Below.refl w.heap.size w) (.cells #[.slice B n d] 23)) (.cells #[.slice none 0 0] 56)
  clear ho
  go_enter Try.func17, Try.ntmps17
  have P0 := (box_new w #[.slice B n d] 23).alloc (.cells #[.slice none 0 0] 56)
  have Q0 := box_at (w.alloc (.cells #[.slice B n d] 23)) #[.slice none 0 0] 56 (g := w.heap.size + 1) (by simp)
  go_wp2_with (go_at_call 76; refine (pa_none _).mono ?_; rintro e w1 ⟨rfl, hb⟩; have A1 := below_call A0 hb; have P1 := P0.below hb; have Q1 := Q0.below hb; clear hb P0 Q0 A0)
  obtain ⟨p, hp⟩ : ∃ p, w.heap.size = p := ⟨_, rfl⟩
  have hpw : w.heap.size ≤ p := by omega
  simp only [hp] at P1 Q1
  simp only [hp]
  clear hp
  go_loopg [7, 23] 0 (fun gk x i wr => ∃ (k : Nat) (v : Value) (vs : List Value), k ≤ 0 ∧ gk = 0 - k ∧ i = .int .i64 k ∧ TrS w1 (p + 1) n (fun _ _ => false) k v vs wr)
  case atStart => exact ⟨0, _, _, by omega, rfl, rfl, TrS.first n _ Q1⟩
  case round =>
    obtain ⟨k, v, vs, hk, rfl, rfl, hs⟩ := hrel
    have Br := A1.trans (hs.bel.mono (by omega))
    obtain rfl : k = 0 := by omega
    have lq := hs.box.1
    have c3 : wr.cell? ⟨p, 0, none⟩ = some (.slice B n d) := (World.cell?_of_block (hs.bel.block p (by omega))).trans (P1.2.1 0)
    have l3 : p < wr.heap.size := by omega
    have HP := Lib.hid (show Held wr p #[.slice B n d] from ⟨l3, fun i hi => (show i = 0 by simpa using hi) ▸ c3⟩)
    have hsz := Br.size
    clear hs
    go_wp2_with (fail)
    have A5 : Below wr.heap.size wr _ := Below.refl wr.heap.size wr
    refine (ho_each 39 #[] (enters_of Try.func39 (by kernel_rfl) rfl) (soM os (.whole)) B n d _ hn (fun W k hk hb => ?_)).mono ?_
    · have B6 : Below wr.heap.size wr W := below_call A5 hb
      have A6 : Below w.heap.size w W := Br.trans (B6.mono hsz)
      exact tr_whole k W
    rintro e w5 ⟨g5, rfl, C5, hg5, hb5⟩
    have HX := Lib.hid (show Col w5 g5 n (fun i => .bool (soM os (.whole) i)) ∧ w.heap.size ≤ g5 ∧ Below w.heap.size w w5 from ⟨C5, by have := A5.size; omega, Br.trans ((below_call A5 hb5).mono hsz)⟩)
    clear C5 hg5 hb5 A5
    go_wp2_with (fail)
    all_goals go_ret
    all_goals exact ⟨g5, rfl, HX.out⟩
end Go.Proofs.Ytmemhlhjkpijpaa
