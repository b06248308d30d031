/- The law package's awake, of the diary. -/
import Derived.Test.YtbhgecmmmkmkjaaDoorDiaU
namespace Go.Proofs.YtbhgecmmmkmkjaaDoor
open Go.RowKit Go.Deep
set_option linter.unusedVariables false
set_option linter.unusedSimpArgs false
set_option maxRecDepth 100000
attribute [local go_sem] cell_set_ite Near.cell Near.frozen

def na1 : Nt := ⟨7, 1, 3⟩
def na2 : Nt := ⟨9, 99, -1⟩
theorem tx1 : txV na1 = ⟨#[55, 32, 109, 111, 100, 101, 32, 51]⟩ := by kernel_rfl
theorem tx2 : txV na2 = ⟨#[57, 32, 63, 32, 45, 49]⟩ := by kernel_rfl
theorem si8 : sinceL [na1, na2] 8 2 = [na2] := by simp [sinceL, na1, na2, List.getD]

theorem push_as (A : Option Addr) (n c : Nat) (l M : List Nt) (m : Nat) (xt xw xa : Int) (w : World) (h : Notes w A n l) (hc : n ≤ c) (hn : n ≤ 1000) (hM : pushN l ⟨xt, xw, xa⟩ = M) (hm : M.length = m) : Calls Tryd.prog 14 #[.slice A n c, .agg #[.int .i64 xt, .int .i64 xw, .int .i64 xa]] w fun e w' => ∃ B d, e = .returned (.slice B m d) ∧ m ≤ d ∧ Notes w' B m M ∧ Below w.heap.size w w' := by
  subst hM hm
  exact di_push A n c l xt xw xa w h hc hn
theorem since_as (A : Option Addr) (n c : Nat) (l M : List Nt) (m : Nat) (tick : Int) (w : World) (h : Notes w A n l) (hn : n ≤ 100000) (hM : sinceL l tick n = M) (hm : M.length = m) : Calls Tryd.prog 18 #[.slice A n c, .int .i64 tick] w fun e w' => ∃ B d, e = .returned (.slice B m d) ∧ m ≤ d ∧ Notes w' B m M ∧ Below w.heap.size w w' := by
  subst hM hm
  exact di_since A n c l tick w h hn
theorem text_as (xt xw xa : Int) (s : ByteArray) (w : World) (ht : I64 xt) (ha : I64 xa) (hI : ItTab w) (hN : Words w 0 diWords) (hs : txV ⟨xt, xw, xa⟩ = s) : Calls Tryd.prog 16 #[.agg #[.int .i64 xt, .int .i64 xw, .int .i64 xa]] w fun e w' => e = .returned (.string s) ∧ Below w.heap.size w w' := by
  subst hs
  exact di_text xt xw xa w ht ha hI hN
theorem i64_small {n : Int} (h0 : -1000 ≤ n) (h1 : n ≤ 1000) : I64 n := ⟨by omega, by omega⟩
set_option maxHeartbeats 1000000 in
theorem law44_awake (w : World) (hI : ItTab w) (hN : Words w 0 diWords) : Calls Tryd.prog 12 #[] w fun e w' => e = .returned (.bool true) ∧ Below w.heap.size w w' := by
  have HI := Lib.hid hI
  have HW := Lib.hid hN
  clear hI hN
  have A0 : Below w.heap.size w w := Below.refl _ _
  have P1 := Lib.hid (fun w => push_as none 0 0 [] [na1] 1 7 1 3 w (Notes.none_ _ _) (Nat.le_refl _) (by omega) rfl rfl)
  go_enter Tryd.func12, Tryd.ntmps12
  go_wp2_with (fail)
  refine (P1.out _).mono ?_
  rintro e w1 ⟨B1, d1, rfl, hd1, hN1, hb1⟩
  have A1 := hb1
  have P2 := Lib.hid (push_as B1 1 d1 [na1] [na1, na2] 2 9 99 (-1) w1 hN1 hd1 (by omega) rfl rfl)
  clear P1 hN1 hd1 hb1
  go_wp2_with (fail)
  refine P2.out.mono ?_
  rintro e w2 ⟨B2, d2, rfl, hd2, hN2, hb2⟩
  have A2 := below_call A1 hb2
  have K3 := Lib.hid (fun w3 (h : Notes w3 B2 2 [na1, na2]) => since_as B2 2 d2 [na1, na2] [na2] 1 8 w3 h (by omega) si8 rfl)
  have HN2 := Lib.hid hN2
  obtain ⟨b, off, rfl, hl, c0, c1, c2⟩ := hN2.at_ (i := 0) (by omega)
  obtain ⟨b', off', e', hl', d0, d1', d2'⟩ := hN2.at_ (i := 1) (by omega)
  injection e' with e'
  injection e' with e1 e2
  subst e1 e2
  simp only [Nat.zero_mul, Nat.one_mul, Nat.add_zero] at c0 c1 c2 d0 d1' d2'
  replace c0 : w2.cell? ⟨b, off, none⟩ = some (.int .i64 7) := c0
  replace c1 : w2.cell? ⟨b, off + 1, none⟩ = some (.int .i64 1) := c1
  replace c2 : w2.cell? ⟨b, off + 2, none⟩ = some (.int .i64 3) := c2
  replace d0 : w2.cell? ⟨b, off + 3, none⟩ = some (.int .i64 9) := d0
  replace d1' : w2.cell? ⟨b, off + 3 + 1, none⟩ = some (.int .i64 99) := d1'
  replace d2' : w2.cell? ⟨b, off + 3 + 2, none⟩ = some (.int .i64 (-1)) := d2'
  have T1 := Lib.hid (text_as 7 1 3 _ w2 (i64_small (by omega) (by omega)) (i64_small (by omega) (by omega)) (HI.out.stays A2) (HW.out.stays A2) tx1)
  clear P2 hN2 hd2 hb2 A1 hl'
  go_wp2_with (fail)
  refine T1.out.mono ?_
  rintro e w3 ⟨rfl, hb3⟩
  have A3 := below_call A2 hb3
  replace d0 := (hb3.cell (p := ⟨b, off + 3, none⟩) hl).trans d0
  replace d1' := (hb3.cell (p := ⟨b, off + 3 + 1, none⟩) hl).trans d1'
  replace d2' := (hb3.cell (p := ⟨b, off + 3 + 2, none⟩) hl).trans d2'
  have HN3 := Lib.hid (HN2.out.below hb3)
  have T2 := Lib.hid (text_as 9 99 (-1) _ w3 (i64_small (by omega) (by omega)) (i64_small (by omega) (by omega)) (HI.out.stays A3) (HW.out.stays A3) tx2)
  clear T1 HN2 hb3 A2 c0 c1 c2
  go_wp2_with (fail)
  refine T2.out.mono ?_
  rintro e w4 ⟨rfl, hb4⟩
  have A4 := below_call A3 hb4
  have K := Lib.hid (K3.out w4 (HN3.out.below hb4))
  clear T2 K3 HN3 hb4 A3 d0 d1' d2'
  go_wp2_with (fail)
  refine K.out.mono ?_
  rintro e w5 ⟨B5, d5, rfl, _, _, hb5⟩
  have A5 := Lib.hid (below_call A4 hb5)
  clear hb5 A4
  go_wp2
  all_goals go_ret
  all_goals exact ⟨rfl, A5.out⟩
end Go.Proofs.YtbhgecmmmkmkjaaDoor
