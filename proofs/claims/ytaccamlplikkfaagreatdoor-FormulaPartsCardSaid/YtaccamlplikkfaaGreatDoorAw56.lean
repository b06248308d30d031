/- Two lists that are the same; the law package's awake. -/
import Derived.Test.YtaccamlplikkfaaGreatDoorLaw56
namespace Go.Proofs.YtaccamlplikkfaaGreatDoor
open Go.RowKit Go.Deep
set_option linter.unusedVariables false
set_option linter.unusedSimpArgs false
set_option maxRecDepth 100000
attribute [local go_sem] cell_set_ite Near.cell Near.frozen
attribute [-go_sem] run_string_add_if

set_option maxHeartbeats 2000000 in
theorem l56_same (A B : Option Addr) (n c d : Nat) (ts us : Nat → Tm) (w : World) (hA : Terms w A n ts) (hB : Terms w B n us) (hc : n ≤ c) (hd : n ≤ d) (hn : n ≤ 1000) (he : ∀ i, i < n → ts i = us i) :
    Calls Tryz.prog 9 #[.slice A n c, .slice B n d] w fun e w' => e = .returned (.bool true) ∧ Below w.heap.size w w' := by
  have HA := Lib.hid hA
  have HB := Lib.hid hB
  have HE := Lib.hid he
  have A0 : Below w.heap.size w w := Below.refl _ _
  clear hA hB he
  go_enter Tryz.func9, Tryz.ntmps9
  go_wp2_with (fail)
  go_loopw [5, 13] (fun j i wr => ∃ k : Nat, k ≤ n ∧ i = .int .i64 k ∧ Below w.heap.size w wr) (fun _ i _ => n - (intOf i).toNat)
  case atStart => exact ⟨0, Nat.zero_le _, rfl, A0⟩
  case round =>
    obtain ⟨k, hk, rfl, A1⟩ := hrel
    by_cases hlt : k < n
    · obtain ⟨b, off, rfl, hb, hcell⟩ := HA.out.2 (by omega)
      obtain ⟨b2, off2, rfl, hb2, hcell2⟩ := HB.out.2 (by omega)
      obtain ⟨e1, e2, e3⟩ := hcell k hlt
      obtain ⟨f1, f2, f3⟩ := hcell2 k hlt
      rw [← HE.out k hlt] at f1 f2 f3
      have c0 := (A1.cell (p := ⟨b, off + k * 3, none⟩) hb).trans e1
      have c1 := (A1.cell (p := ⟨b, off + k * 3 + 1, none⟩) hb).trans e2
      have c2 := (A1.cell (p := ⟨b, off + k * 3 + 2, none⟩) hb).trans e3
      have d0 := (A1.cell (p := ⟨b2, off2 + k * 3, none⟩) hb2).trans f1
      have d1 := (A1.cell (p := ⟨b2, off2 + k * 3 + 1, none⟩) hb2).trans f2
      have d2 := (A1.cell (p := ⟨b2, off2 + k * 3 + 2, none⟩) hb2).trans f3
      clear hcell hcell2 e1 e2 e3 f1 f2 f3
      generalize (ts k).op = op at *
      generalize (ts k).a = a at *
      generalize (ts k).b = bb at *
      go_wp2_with (fail)
      go_quiet (fail)
      go_wp2_with (fail)
      go_roundw
      case rel => exact ⟨k + 1, by omega, by go_num, by first | exact A1 | exact below_drewN A1 _⟩
      case measure => simp [intOf]; omega
    · obtain rfl : k = n := by omega
      go_wp2_with (fail)
      all_goals go_ret
      all_goals exact ⟨rfl, A1⟩
theorem itoa_1 : Lib.itoa 1 = [49] := by
  rw [show (1 : Int) = ((1 : Nat) : Int) from rfl, Lib.itoa_nonneg, Lib.decDigits_one (by omega)]
  rfl
theorem itoa_5 : Lib.itoa 5 = [53] := by
  rw [show (5 : Int) = ((5 : Nat) : Int) from rfl, Lib.itoa_nonneg, Lib.decDigits_one (by omega)]
  rfl
theorem itoa_128 : Lib.itoa 128 = [49, 50, 56] := by
  rw [show (128 : Int) = ((128 : Nat) : Int) from rfl, Lib.itoa_nonneg, Lib.decDigits, dif_neg (by omega), Lib.decDigits, dif_neg (by omega), Lib.decDigits_one (by omega)]
  rfl
def aw1 : List Tm := [⟨2, 6, 1⟩, ⟨3, 0, 0⟩, ⟨2, 2, 1⟩, ⟨3, 0, 0⟩, ⟨5, 0, 0⟩]
def aw6 : List Tm := [⟨2, 11, 128⟩, ⟨6, 5, 0⟩]
theorem wd_open : wdL ⟨2, 6, 1⟩ = [111, 112, 101, 110, 62, 61, 49] := by
  show askL.getD _ [] ++ wLeast ++ Lib.itoa 1 = _
  rw [itoa_1]; rfl
theorem wd_latch : wdL ⟨2, 2, 1⟩ = [108, 97, 116, 99, 104, 62, 61, 49] := by
  show askL.getD _ [] ++ wLeast ++ Lib.itoa 1 = _
  rw [itoa_1]; rfl
theorem wd_hazard : wdL ⟨2, 11, 128⟩ = [104, 97, 122, 97, 114, 100, 58, 49, 50, 56] := by
  show wHazard ++ Lib.itoa 128 = _
  rw [itoa_128]; rfl
theorem wd_once : wdL ⟨6, 5, 0⟩ = [111, 110, 99, 101, 58, 53] := by
  show wOnce ++ Lib.itoa 5 = _
  rw [itoa_5]; rfl
def awT1 : List UInt8 := [111, 112, 101, 110, 62, 61, 49, 32, 110, 111, 116, 32, 108, 97, 116, 99, 104, 62, 61, 49, 32, 110, 111, 116, 32, 111, 114]
def awT4 : List UInt8 := [111, 112, 101, 110, 62, 61, 49, 32, 32, 110, 111, 116]
def awT5 : List UInt8 := [97, 110, 100]
def awT6 : List UInt8 := [104, 97, 122, 97, 114, 100, 58, 49, 50, 56, 32, 111, 110, 99, 101, 58, 53]
theorem spl_1 : splS awT1 = aw1.map wdL := by
  show _ = [wdL ⟨2, 6, 1⟩, wNot, wdL ⟨2, 2, 1⟩, wNot, wOr]
  rw [wd_open, wd_latch]; decide
theorem spl_6 : splS awT6 = aw6.map wdL := by
  show _ = [wdL ⟨2, 11, 128⟩, wdL ⟨6, 5, 0⟩]
  rw [wd_hazard, wd_once]; decide
theorem pa_1 : paF rgt (splS awT1) [] = (aw1, 0) := by
  rw [spl_1]
  exact pa_told rgt aw1 [] (by decide) (by decide) (by decide)
theorem pa_6 : paF rgt (splS awT6) [] = (aw6, 0) := by
  rw [spl_6]
  exact pa_told rgt aw6 [] (by decide) (by decide) (by decide)
theorem gd_wd (t : Tm) (h : myB t = true) : gdB (wdL t) = true := by
  unfold gdB
  rw [tm_wd t h, h, decide_eq_true rfl]
  rfl
theorem pa_4 : paF rgt (splS awT4) [] = ([], 1) := by
  rw [show splS awT4 = [wdL ⟨2, 6, 1⟩, [], wNot] by rw [wd_open]; decide, pa_good (gd_wd _ (by decide)), if_neg (by decide), pa_bad]
  decide
theorem pa_5 : paF rgt (splS awT5) [] = ([], 3) := by
  rw [show splS awT5 = [wdL ⟨4, 0, 0⟩] by decide, pa_good (gd_wd _ (by decide)), if_neg (by decide), tm_wd _ (by decide)]
  show (if rgt ([] ++ [⟨4, 0, 0⟩]) = true then _ else _) = _
  rw [if_neg (by decide)]
/-- What Parse makes of a text of which that is known. -/
theorem ps_at {s : ByteArray} {v : Value} {w : World} {l : List Tm} {k : Nat} (h : PsR s v w) (e : paF rgt (splS s.data.toList) [] = (l, k)) : ∃ A c, v = .tuple #[.slice A l.length c, .int .i64 (noE k)] ∧ Terms w A l.length (fun i => l.getD i ⟨0, 0, 0⟩) ∧ l.length ≤ c := by
  obtain ⟨l', k', A, c, h1, _, h2, h3, h4⟩ := h
  rw [e] at h1
  obtain ⟨rfl, rfl⟩ := Prod.mk.inj h1
  exact ⟨A, c, h2, h3, h4⟩
def aw1F : Nat → Tm := fun i => aw1.getD i ⟨0, 0, 0⟩
theorem aw_right : rtB aw1F 5 = true := by decide
theorem aw_text : txL aw1F 5 = awT1 := by
  unfold txL
  rw [if_pos aw_right, show (tlL aw1F 5).map wdL = aw1.map wdL from rfl, ← spl_1, joi_spl]
theorem aw_cut (x : Nat) (h : x ≤ 4) (h1 : rtB (from_ aw1F 0) x = true) (h2 : rtB (from_ aw1F x) (4 - x) = true) : x = 2 := by
  rcases (by omega : x = 0 ∨ x = 1 ∨ x = 2 ∨ x = 3 ∨ x = 4) with rfl | rfl | rfl | rfl | rfl
  · exact absurd h1 (by decide)
  · exact absurd h2 (by decide)
  · rfl
  · exact absurd h1 (by decide)
  · exact absurd h1 (by decide)
set_option maxHeartbeats 4000000 in
theorem l56_awake (w : World) (pm pp : Addr) (h : Fx w pm pp) : Calls Tryz.prog 5 #[] w fun e w' => e = .returned (.bool true) ∧ Below w.heap.size w w' := by
  have K := fun (s : ByteArray) (hs : s.size ≤ 1000) (l : List Tm) (k : Nat) (e : paF rgt (splS s.data.toList) [] = (l, k)) w' (hb : Below w.heap.size w w') => (fo_Parse s hs w' pm pp (h.below hb)).mono (R' := fun e w'' => ∃ A c, e = .returned (.tuple #[.slice A l.length c, .int .i64 (noE k)]) ∧ Terms w'' A l.length (fun i => l.getD i ⟨0, 0, 0⟩) ∧ l.length ≤ c ∧ Below w'.heap.size w' w'') (fun e' w'' ⟨v, he, hp, hb2⟩ => by
    obtain ⟨A, c, rfl, ht, hc⟩ := ps_at hp e
    exact ⟨A, c, he, ht, hc, hb2⟩)
  have K1 : Hid (∀ w', Below w.heap.size w w' → Calls Tryz.prog 7 #[.string ⟨#[111, 112, 101, 110, 62, 61, 49, 32, 110, 111, 116, 32, 108, 97, 116, 99, 104, 62, 61, 49, 32, 110, 111, 116, 32, 111, 114]⟩] w' fun e w'' => ∃ A c, e = .returned (.tuple #[.slice A 5 c, .int .i64 0]) ∧ Terms w'' A 5 aw1F ∧ 5 ≤ c ∧ Below w'.heap.size w' w'') := Lib.hid fun w' hb => K ⟨awT1.toArray⟩ (by decide) aw1 0 pa_1 w' hb
  have K4 : Hid (∀ w', Below w.heap.size w w' → Calls Tryz.prog 7 #[.string ⟨#[111, 112, 101, 110, 62, 61, 49, 32, 32, 110, 111, 116]⟩] w' fun e w'' => ∃ A c, e = .returned (.tuple #[.slice A 0 c, .int .i64 6]) ∧ Below w'.heap.size w' w'') := Lib.hid fun w' hb => (K ⟨awT4.toArray⟩ (by decide) [] 1 pa_4 w' hb).mono fun e w'' ⟨A, c, h1, _, _, h4⟩ => ⟨A, c, h1, h4⟩
  have K5 : Hid (∀ w', Below w.heap.size w w' → Calls Tryz.prog 7 #[.string ⟨#[97, 110, 100]⟩] w' fun e w'' => ∃ A c, e = .returned (.tuple #[.slice A 0 c, .int .i64 1]) ∧ Below w'.heap.size w' w'') := Lib.hid fun w' hb => (K ⟨awT5.toArray⟩ (by decide) [] 3 pa_5 w' hb).mono fun e w'' ⟨A, c, h1, _, _, h4⟩ => ⟨A, c, h1, h4⟩
  have K6 : Hid (∀ w', Below w.heap.size w w' → Calls Tryz.prog 7 #[.string ⟨#[104, 97, 122, 97, 114, 100, 58, 49, 50, 56, 32, 111, 110, 99, 101, 58, 53]⟩] w' fun e w'' => ∃ A c, e = .returned (.tuple #[.slice A 2 c, .int .i64 0]) ∧ Terms w'' A 2 (fun i => aw6.getD i ⟨0, 0, 0⟩) ∧ 2 ≤ c ∧ Below w'.heap.size w' w'') := Lib.hid fun w' hb => K ⟨awT6.toArray⟩ (by decide) aw6 0 pa_6 w' hb
  have G := Lib.hid h.gl
  have A0 : Below w.heap.size w w := Below.refl _ _
  clear K h
  go_enter Tryz.func5, Tryz.ntmps5
  go_wp2_with (fail)
  refine (K1.out _ A0).mono ?_
  rintro e w1 ⟨A1, c1, rfl, t1, hc1, b1⟩
  have T1 := Lib.hid t1
  have KT := Lib.hid (fo_text A1 5 c1 aw1F w1 t1 hc1 (G.out.below b1))
  rw [aw_text, aw_right] at KT
  have KT2 : Hid (Calls Tryz.prog 6 #[.slice A1 5 c1] w1 fun e w' => e = .returned (.tuple #[.string ⟨#[111, 112, 101, 110, 62, 61, 49, 32, 110, 111, 116, 32, 108, 97, 116, 99, 104, 62, 61, 49, 32, 110, 111, 116, 32, 111, 114]⟩, .bool true]) ∧ Below w1.heap.size w1 w') := KT
  clear t1 KT
  go_wp2_with (fail)
  refine KT2.out.mono ?_
  rintro e w2 ⟨rfl, b2⟩
  have B2 := below_call b1 b2
  have KP := Lib.hid (fo_partsQ A1 4 c1 aw1F w2 (T1.out.below b2) aw_right hc1)
  clear KT2 b1 b2
  go_wp2_with (fail)
  refine KP.out.mono ?_
  rintro e w3 ⟨A3, c3, rfl, ⟨F, bg, ln, hv, hpc, _, _, h2⟩, b3⟩
  have B3 := below_call B2 b3
  obtain ⟨g0, g1, g2⟩ := h2 rfl
  have p0 := hpc 0 (by decide)
  have p1 := hpc 1 (by decide)
  have l0 : ln 0 = 2 := aw_cut (ln 0) (by omega) (by have := p0.2; rw [g0] at this; exact this) (by rw [show 4 - ln 0 = ln 1 by omega, ← g1]; exact p1.2)
  have l1 : ln 1 = 2 := by omega
  obtain ⟨q0, d0, f0, _, _⟩ := p0.1
  obtain ⟨q1, d1, f1, _, _⟩ := p1.1
  rw [l0] at f0
  rw [l1] at f1
  obtain ⟨bb, off, rfl, hbb, hcc⟩ := hv (by decide)
  have x0 := (hcc 0 (by decide)).trans (congrArg some f0)
  have x1 := (hcc 1 (by decide)).trans (congrArg some f1)
  rw [Nat.add_zero] at x0
  clear hcc p0 p1 hpc h2 g0 g1 g2 l0 l1 f0 f1 hv b3 B2 KP T1 G
  have X0 := Lib.hid fun w' (hb : Below w3.heap.size w3 w') => (hb.cell (p := ⟨bb, off, none⟩) hbb).trans x0
  have X1 := Lib.hid fun w' (hb : Below w3.heap.size w3 w') => (hb.cell (p := ⟨bb, off + 1, none⟩) hbb).trans x1
  clear x0 x1
  have hn : ((ndN (aw1F 4).op : Nat)) = 2 := by decide
  rw [hn]
  clear hn
  go_wp2_with (fail)
  refine (K4.out _ B3).mono ?_
  rintro e w4 ⟨A4, c4, rfl, b4⟩
  have B4 := below_call B3 b4
  have E4 := b4
  clear b4
  go_wp2_with (fail)
  refine (K5.out _ B4).mono ?_
  rintro e w5 ⟨A5, c5, rfl, b5⟩
  have B5 := below_call B4 b5
  have E5 := below_call E4 b5
  clear b5
  go_wp2_with (fail)
  refine (K6.out _ B5).mono ?_
  rintro e w6 ⟨A6, c6, rfl, t6, hc6, b6⟩
  have B6 := below_call B5 b6
  have E6 := below_call E5 b6
  obtain ⟨b7, off7, rfl, hb7, hc7⟩ := t6.2 (by omega)
  have y0 := (hc7 1 (by omega)).1
  have y1 := (hc7 1 (by omega)).2.1
  have y2 := (hc7 1 (by omega)).2.2
  rw [Nat.one_mul] at y0 y1 y2
  have z0 := X0.out _ E6
  have z1 := X1.out _ E6
  clear t6 hc7 b6
  go_wp2_with (fail)
  go_ret
  exact ⟨rfl, B6⟩
end Go.Proofs.YtaccamlplikkfaaGreatDoor
