/- The document's monitor: a run; and what is kept lies between -1 and 1001. -/
import Derived.Test.YtngmggccijmhfaaRef58F
namespace Go.Proofs.Ytngmggccijmhfaa
open Go.RowKit
set_option linter.unusedVariables false
set_option linter.unusedSimpArgs false
set_option maxRecDepth 100000
attribute [local go_sem] cell_set_ite Near.cell Near.frozen

theorem nx_bd (ts : Nat → Tm) (ks : List Int) (o : Ou) (k : Nat) (h : -1 ≤ ks.getD k 0 ∧ ks.getD k 0 ≤ 1001) : -1 ≤ nxV ts ks o k ∧ nxV ts ks o k ≤ 1001 := by
  unfold nxV
  split
  · omega
  · split
    · unfold unV
      repeat' split
      · exact ago_bd _ h.1 h.2
      · exact ago_bd _ h.1 h.2
      · omega
    · unfold biV
      repeat' split
      all_goals omega
theorem kp_bd (ts : Nat → Tm) (n : Nat) (os : Nat → Ou) : ∀ k i, i < n → -1 ≤ (kpL ts n os k).getD i 0 ∧ (kpL ts n os k).getD i 0 ≤ 1001
  | 0, i, hi => by
    have e : (kpL ts n os 0).getD i 0 = frV (ts i).op := by simp [kpL, List.getD, hi]
    rw [e]; unfold frV; split <;> omega
  | k + 1, i, hi => by
    have e : (kpL ts n os (k + 1)).getD i 0 = nxV ts (kpL ts n os k) (os k) i := by simp [kpL, List.getD, hi]
    rw [e]
    exact nx_bd ts _ _ i (kp_bd ts n os k i hi)
def ruL (ts : Nat → Tm) (n : Nat) (os : Nat → Ou) (k : Nat) : List Bool := (List.range k).map (ruB ts n os)
theorem ruL_next (ts : Nat → Tm) (n : Nat) (os : Nat → Ou) (k : Nat) : ruL ts n os (k + 1) = ruL ts n os k ++ [ruB ts n os k] := by simp [ruL, List.range_succ]
theorem ruL_len (ts : Nat → Tm) (n : Nat) (os : Nat → Ou) (k : Nat) : (ruL ts n os k).length = k := by simp [ruL]

set_option maxHeartbeats 8000000 in
theorem r8_run (A : Option Addr) (n c : Nat) (ts : Nat → Tm) (B : Option Addr) (m d : Nat) (os : Nat → Ou) (w : World) (h : Terms w A n ts) (ho : Outs w B m os) (hr : rtB ts n = true) (hm : m ≤ 100000) :
    Calls Try.prog 25 #[.slice A n c, .slice B m d] w fun e w' => ∃ P f, e = .returned (.slice P m f) ∧ Truths w' P m (ruL ts n os m) ∧ Below w.heap.size w w' := by
  have hn40 : n ≤ 40 := by
    have hr2 := hr
    unfold rtB at hr2
    have : n ≤ 40 ∧ okB ts n = true ∧ rdN ts n = 1 := by simpa using hr2
    exact this.1
  have A0 : Below w.heap.size w w := Below.refl _ _
  have HN := Lib.hid (r8_new A n c ts w h hr)
  have HS := Lib.hid (fun K f k W (hb : Below w.heap.size w W) (hk : Ints W K n (kpL ts n os k)) => r8_step A n c ts K f (kpL ts n os k) (os k) W (h.below hb) hk (kp_bd ts n os k) hr)
  have HO := Lib.hid ho
  unfold Ou.cells at HS
  clear h ho hr
  go_enter Try.func25, Try.ntmps25
  go_wp2_with (fail)
  refine HN.out.mono ?_
  rintro e w1 ⟨B1, d1, rfl, own1, hb⟩
  have T0 : Two w w1 (.slice B1 n d1) (.slice none 0 0) (kpL ts n os 0) 0 [] :=
    ⟨by rw [kpL_len]; exact own1, World.ownsRow_nil _ _ _ _, (fun g h1 h2 => nomatch h2), hb⟩
  have HT0 := Lib.hid T0
  clear hb HN own1 T0 A0
  go_wp2
  go_loopg [5, 7, 17] m (fun gk z x i wr => ∃ (k : Nat) (K : Option Addr) (f : Nat), k ≤ m ∧ gk = m - k ∧ i = .int .i64 k ∧ z = .slice K n f ∧ Two w wr z x (kpL ts n os k) k (ruL ts n os k))
  case atStart => exact ⟨0, B1, d1, by omega, rfl, rfl, rfl, HT0.out⟩
  case round =>
    clear HT0
    obtain ⟨k, K, f, hk, rfl, rfl, rfl, tw⟩ := hrel
    by_cases hlt : k < m
    · obtain ⟨b, off, rfl, hbs, hcell⟩ := (HO.out.below tw.bel) (by omega)
      have c0 : wr.cell? ⟨b, off + k * 11, none⟩ = some (.int .i64 (os k).tick) := hcell k hlt 0 (by omega)
      have c1 : wr.cell? ⟨b, off + k * 11 + 1, none⟩ = some (.int .i64 (os k).mode) := hcell k hlt 1 (by omega)
      have c2 : wr.cell? ⟨b, off + k * 11 + 2, none⟩ = some (.int .i64 (os k).latch) := hcell k hlt 2 (by omega)
      have c3 : wr.cell? ⟨b, off + k * 11 + 3, none⟩ = some (.int .i64 (os k).notes) := hcell k hlt 3 (by omega)
      have c4 : wr.cell? ⟨b, off + k * 11 + 4, none⟩ = some (.int .i64 (os k).level) := hcell k hlt 4 (by omega)
      have c5 : wr.cell? ⟨b, off + k * 11 + 5, none⟩ = some (.int .i64 (os k).buzzer) := hcell k hlt 5 (by omega)
      have c6 : wr.cell? ⟨b, off + k * 11 + 6, none⟩ = some (.int .i64 (os k).opn) := hcell k hlt 6 (by omega)
      have c7 : wr.cell? ⟨b, off + k * 11 + 7, none⟩ = some (.int .i64 (os k).pos) := hcell k hlt 7 (by omega)
      have c8 : wr.cell? ⟨b, off + k * 11 + 8, none⟩ = some (.int .i64 (os k).volume) := hcell k hlt 8 (by omega)
      have c9 : wr.cell? ⟨b, off + k * 11 + 9, none⟩ = some (.bool (os k).drop) := hcell k hlt 9 (by omega)
      have c10 : wr.cell? ⟨b, off + k * 11 + 10, none⟩ = some (.string (os k).frame) := hcell k hlt 10 (by omega)
      have HNX := Lib.hid (ruL_next ts n os k)
      have HRB := Lib.hid (show ruB ts n os k = skF ts (kpL ts n os k) (os k) n 0 from rfl)
      have HKX := Lib.hid (show kpL ts n os (k + 1) = nxL ts (kpL ts n os k) (os k) n from rfl)
      have haa := tw.a
      rw [kpL_len] at haa
      have IK := Ints.of_own haa (kpL_len ts n os k)
      have HC := Lib.hid (HS.out K f k wr tw.bel IK)
      have hlb := tw.b
      have HTW := Lib.hid tw
      clear hcell haa IK tw hlb
      generalize hv : skF ts (kpL ts n os k) (os k) n 0 = v at *
      clear hv
      go_wp2_with (fail)
      refine HC.out.mono ?_
      rintro e w3 ⟨B3, f3, rfl, own3, hb⟩
      have T3 : Two w w3 (.slice B3 n f3) u7 (kpL ts n os (k + 1)) k (ruL ts n os k) :=
        ⟨by rw [kpL_len, HKX.out]; exact own_base own3 HTW.out.bel.size, own_below HTW.out.b hb, (fun g h1 h2 => by have q1 := (own3.lt g h1).1; have q2 := (HTW.out.b.lt g h2).2; omega), Below.trans HTW.out.bel (hb.mono HTW.out.bel.size)⟩
      have HT3 := Lib.hid T3
      have hsz := T3.bel.size
      clear hb own3 T3 HTW HC c0 c1 c2 c3 c4 c5 c6 c7 c8 c9 c10
      go_wp2_with (at_builtin; refine app_truth_at rfl _ _ rfl v rfl rfl HT3.out.b hsz (by omega) ?_)
      intro y1 w4 h1 h2 h3
      have HT4 := Lib.hid (HT3.out.b_next h1 h2 h3)
      clear h1 h2 h3 HT3 hsz
      go_wp2
      go_roundg (m - (k + 1))
      case measure => omega
      case rel => exact ⟨k + 1, B3, f3, by omega, by omega, by go_num, rfl, by rw [HNX.out, HRB.out]; exact HT4.out⟩
    · obtain rfl : k = m := by omega
      obtain ⟨P, f2, hP, hle⟩ := own_formT tw.b
      have A2 := tw.bel
      subst hP
      have HX := Lib.hid (Truths.of_own tw.b (ruL_len ts n os k))
      clear tw
      go_wp2
      all_goals go_ret
      all_goals exact ⟨P, f2, rfl, HX.out, A2⟩
end Go.Proofs.Ytngmggccijmhfaa
