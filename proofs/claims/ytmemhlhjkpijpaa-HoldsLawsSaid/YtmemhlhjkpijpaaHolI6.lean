/- holds.truths at one kind of formula. -/
import Derived.Test.YtmemhlhjkpijpaaHolH
namespace Go.Proofs.Ytmemhlhjkpijpaa
open Go.RowKit
set_option linter.unusedVariables false
set_option linter.unusedSimpArgs false
set_option maxRecDepth 100000
attribute [local go_sem] cell_set_ite Near.cell Near.frozen

set_option maxHeartbeats 8000000 in
theorem tru_once (a : Mn) (back : Int) (B : Option Addr) (n d : Nat) (os : Nat → Ou) (hn : n ≤ 100000) (w : World) (ho : Outs w B n os)
    (IHa : ∀ (B : Option Addr) (d : Nat) (w : World), Outs w B n os → Calls Try.prog 17 #[a.val, .slice B n d] w (ListR n (fun i => .bool (soM os a i)) w))
    : Calls Try.prog 17 #[(Mn.once a back).val, .slice B n d] w (ListR n (fun i => .bool (soM os (.once a back) i)) w) := by
  have hmf : ∀ (fn : Fn) (first cap : Array Value) (w : World), (Instr.makeFunc fn first cap).run Try.prog w = .ok (.func fn first cap) w := fun _ _ _ _ => rfl
  rw [show (Mn.once a back).val = .iface 77 (.agg #[a.val, .int .i64 back]) from rfl]
  have hm : ∀ w : World, (method 217 77 (.agg #[a.val, .int .i64 back]) "pinchcock/holds.parts").run Try.prog w = .ok (77, .agg #[a.val]) w := fun _ => by kernel_rfl
  have as_atom : ∀ w : World, (Instr.typeAssert (.iface 77 (.agg #[a.val, .int .i64 back])) 44 62 true).run Try.prog w = .ok (.tuple #[.agg #[.int .i64 0, .int .i64 0], .bool false]) w := fun _ => by kernel_rfl
  have as_hazard : ∀ w : World, (Instr.typeAssert (.iface 77 (.agg #[a.val, .int .i64 back])) 44 66 true).run Try.prog w = .ok (.tuple #[.agg #[.int .i64 0], .bool false]) w := fun _ => by kernel_rfl
  have as_not : ∀ w : World, (Instr.typeAssert (.iface 77 (.agg #[a.val, .int .i64 back])) 44 70 true).run Try.prog w = .ok (.tuple #[.agg #[.nilIface], .bool false]) w := fun _ => by kernel_rfl
  have as_both : ∀ w : World, (Instr.typeAssert (.iface 77 (.agg #[a.val, .int .i64 back])) 44 74 true).run Try.prog w = .ok (.tuple #[.agg #[.nilIface, .nilIface], .bool false]) w := fun _ => by kernel_rfl
  have as_either : ∀ w : World, (Instr.typeAssert (.iface 77 (.agg #[a.val, .int .i64 back])) 44 75 true).run Try.prog w = .ok (.tuple #[.agg #[.nilIface, .nilIface], .bool false]) w := fun _ => by kernel_rfl
  have as_once : ∀ w : World, (Instr.typeAssert (.iface 77 (.agg #[a.val, .int .i64 back])) 44 77 true).run Try.prog w = .ok (.tuple #[.agg #[a.val, .int .i64 back], .bool true]) w := fun _ => by kernel_rfl
  have HO := Lib.hid (fun w' (hb : Below w.heap.size w w') => ho.below hb)
  have A0 := below_alloc_on (below_alloc_on (Below.refl w.heap.size w) (.cells #[.slice B n d] 23)) (.cells #[.slice none 0 0] 56)
  clear ho
  have Ha := Lib.hid IHa
  clear IHa
  go_enter Try.func17, Try.ntmps17
  have P0 := (box_new w #[.slice B n d] 23).alloc (.cells #[.slice none 0 0] 56)
  have Q0 := box_at (w.alloc (.cells #[.slice B n d] 23)) #[.slice none 0 0] 56 (g := w.heap.size + 1) (by simp)
  go_wp2_with (go_at_call 77; refine (pa_one a _).mono ?_; rintro e w1 ⟨gp, rfl, CP, hgp, hb⟩; have A1 := below_call A0 hb; have P1 := P0.below hb; have Q1 := Q0.below hb; have lgp := CP.lt; have HCP := Lib.hid CP; clear hb P0 Q0 A0 CP)
  obtain ⟨p, hp⟩ : ∃ p, w.heap.size = p := ⟨_, rfl⟩
  have hpw : w.heap.size ≤ p := by omega
  simp only [hp] at P1 Q1
  simp only [hp]
  have hgp : p + 2 ≤ gp := by simp at hgp; omega
  clear hp
  go_loopg [7, 23] 1 (fun gk x i wr => ∃ (k : Nat) (v : Value) (vs : List Value), k ≤ 1 ∧ gk = 1 - k ∧ i = .int .i64 k ∧ TrS w1 (p + 1) n (fun _ => soM os a) k v vs wr)
  case atStart => exact ⟨0, _, _, by omega, rfl, rfl, TrS.first n _ Q1⟩
  case round =>
    obtain ⟨k, v, vs, hk, rfl, rfl, hs⟩ := hrel
    have Br := A1.trans (hs.bel.mono (by omega))
    by_cases hlt : k < 1
    · have lq := hs.box.1
      have s3 := hs.bel.size
      have c3 : wr.cell? ⟨p, 0, none⟩ = some (.slice B n d) := (World.cell?_of_block (hs.bel.block p (by omega))).trans (P1.2.1 0)
      have l3 : p < wr.heap.size := by omega
      have c5 : wr.cell? ⟨p + 1, 0, none⟩ = some v := hs.box.2.1 0
      have f5 : wr.frozen? ⟨p + 1, 0, none⟩ = false := hs.box.2.2 0
      have cP : wr.cell? ⟨gp, k, none⟩ = some ((fun _ => a.val) k) := (World.cell?_of_block (hs.oth gp (by omega) lgp)).trans (HCP.out.cell k hlt)
      have lP : gp < wr.heap.size := by omega
      have HOW := Lib.hid (HO.out wr Br)
      have HS := Lib.hid hs
      clear hs
      obtain rfl : k = 0 := by omega
      have HI := Lib.hid (fun w' (hb : Below wr.heap.size wr w') => Ha.out B d w' (HOW.out.below hb))
      have hl := HS.out.len
      have HL := Lib.hid hl
      have hl9 : vs.length ≤ 9 := by omega
      clear hl
      go_wp2_with (fail)
      first
      | go_region_law (first
        | ((go_simp; go_at_call 17; refine (HI.out _ ((Below.refl _ _).drew)).mono ?_; rintro e w3 ⟨g3, rfl, C3, hg3, hb0⟩; (have hb : Below wr.heap.size wr w3 := ((Below.refl wr.heap.size wr).drew).trans (hb0.mono (Nat.le_refl _))); clear hb0; (have S3 := HS.out.below (w3 := w3) hb); (have d5 : w3.cell? ⟨p + 1, 0, none⟩ = some v := S3.box.2.1 0); (have sz3 : w1.heap.size ≤ w3.heap.size := by have := hb.size; omega); (have l5 : p + 1 < w3.heap.size := by have := hb.size; omega); (have HS3 := Lib.hid S3); (have HC3 := Lib.hid C3); (have hg1 : w1.heap.size ≤ g3 := by have hx : wr.heap.size ≤ g3 := hg3; omega); (have HN3 := Lib.hid (show some g3 ≠ Value.ownBlock v from fun e => by have := (HS.out.own.lt g3 e.symm).2; have hx : wr.heap.size ≤ g3 := hg3; omega)); clear hb S3 C3))
        | (refine step_app_at rfl (.tmp 27) (.tmp 31) 56 40 _ _ rfl Try.underlying56 bools_info rfl (.slice (some ⟨g3, 0, none⟩) n n) rfl (by simp [Act.eval, Act.put]) (by simp [Act.eval, Act.put]) HS3.out.own sz3 (by omega) (by omega) ?_; intro v' w4 h1 h2 h3; (obtain ⟨Pv, dv, rfl, _⟩ := own_form h1); (obtain ⟨e5, e6, e7⟩ := HS3.out.slot h2); (have HS4 := Lib.hid (HS3.out.next HC3.out HN3.out hg1 rfl h1 h2 h3)); clear h1 h2 h3))
      | fail
      all_goals
        clear d5 sz3 l5 HS3 HC3 hg1 HN3 hg3 e5 e6 e7
        go_wp2_with (fail)
        go_roundg (1 - (0 + 1))
        case measure => omega
        case rel => exact ⟨0 + 1, _, _, by omega, by omega, by go_num, HS4.out⟩
    · obtain rfl : k = 1 := by omega
      have lq := hs.box.1
      have c3 : wr.cell? ⟨p, 0, none⟩ = some (.slice B n d) := (World.cell?_of_block (hs.bel.block p (by omega))).trans (P1.2.1 0)
      have l3 : p < wr.heap.size := by omega
      have HP := Lib.hid (show Held wr p #[.slice B n d] from ⟨l3, fun i hi => (show i = 0 by simpa using hi) ▸ c3⟩)
      have hsz := Br.size
      have HB := Lib.hid (hs.blw (by omega))
      clear hs hm
      obtain ⟨T1, x1, fa⟩ := a.form
      rw [fa]
      simp only [fa] at as_atom as_hazard as_not as_both as_either as_once
      clear fa
      obtain ⟨a1, o1, c1, hH, la, hcl⟩ := HB.out
      obtain ⟨g0, k0, C0⟩ := hcl 0 (by omega)
      rw [Nat.add_zero] at k0
      have c5 : wr.cell? ⟨p + 1, 0, none⟩ = some (.slice (some ⟨a1, o1, none⟩) 1 c1) := hH.2 0 (by simp)
      have HV := Lib.hid (Vals.col C0)
      clear hH hcl C0
      have A5 := below_alloc_on (Below.refl wr.heap.size wr) (.cells #[.iface T1 x1, .int .i64 back] 77)
      have HQ := Lib.hid (Held.of_box (box_new wr #[.iface T1 x1, .int .i64 back] 77))
      go_wp2_with (go_at_call 35; refine (ho_lasts (some ⟨g0, 0, none⟩) n n (soM os a) true _ (HV.out.below A5) hn).mono ?_; rintro e w5 ⟨gl, rfl, CL, hgl, hb⟩; have A7 := Lib.hid (below_call A5 hb); have HQ5 := Lib.hid (HQ.out.below hb); have HCL := Lib.hid CL; have c35 := ((below_call A5 hb).cell (p := ⟨p, 0, none⟩) l3).trans c3; (have l35 : p < w5.heap.size := by have := (below_call A5 hb).size; omega); clear hb CL hgl)
      have A8 : Below wr.heap.size wr (w5.alloc (.cells #[.slice (some ⟨gl, 0, none⟩) n n] 49)) := below_alloc_on A7.out _
      have s8 := A7.out.size
      have HLS := Lib.hid (show Lst (w5.alloc (.cells #[.slice (some ⟨gl, 0, none⟩) n n] 49)) w5.heap.size n (ltV (soM os a) true) from ⟨gl, Held.of_box (box_new _ _ _), HCL.out.alloc _⟩)
      refine (ho_each 36 #[.pointer (some ⟨w5.heap.size, 0, none⟩), .pointer (some ⟨wr.heap.size, 0, none⟩)] (enters_of Try.func36 (by kernel_rfl) rfl) (soM os (.once a back)) B n d _ hn (fun W k hk hb => ?_)).mono ?_
      · exact tr_once w5.heap.size wr.heap.size n k (ltV (soM os a) true) back W hk hn (lt_bd _ _ _) (HLS.out.below hb) _ ((HQ5.out.below (below_alloc_on (Below.refl _ _) _)).below hb)
      rintro e w6 ⟨g5, rfl, C5, hg5, hb5⟩
      have HX := Lib.hid (show Col w6 g5 n (fun i => .bool (soM os (.once a back) i)) ∧ w.heap.size ≤ g5 ∧ Below w.heap.size w w6 from ⟨C5, by have := A8.size; omega, Br.trans ((below_call A8 hb5).mono hsz)⟩)
      clear C5 hg5 hb5 A5 A8 s8 c5 k0
      go_wp2_with (fail)
      all_goals go_ret
      all_goals exact ⟨g5, rfl, HX.out⟩
end Go.Proofs.Ytmemhlhjkpijpaa
