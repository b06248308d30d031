/- MonitorSays holds of every list of parts, and of all that ticks tell: what is kept, and whether it is so, are the document's. No condition. -/
import Derived.Test.YtngmggccijmhfaaMonNo
import Derived.Test.YtngmggccijmhfaaRef58G
namespace Go.Proofs.Ytngmggccijmhfaa.monitorSays
open Go.ChangeShapes Go.WideShapes Go.ChangeAt Go.RowKit
set_option linter.unusedVariables false
set_option linter.unusedSimpArgs false
set_option maxRecDepth 100000
attribute [local go_sem] cell_set_ite Near.cell Near.frozen

def intIn : Value → Int | .int _ x => x | _ => 0
def boolIn : Value → Bool | .bool x => x | _ => false
def textIn : Value → ByteArray | .string x => x | _ => ⟨#[]⟩
theorem outs_of_rows {w : World} {A : Option Addr} {n : Nat} {rs : List (List Value)} (h : Rows [.int .i64, .int .i64, .int .i64, .int .i64, .int .i64, .int .i64, .int .i64, .int .i64, .int .i64, .bool, .string] w A n rs) : ∃ os, Outs w A n os := by
  let v : Nat → Nat → Value := fun i j => (rs.getD i []).getD j undef
  refine ⟨fun i => ⟨intIn (v i 0), intIn (v i 1), intIn (v i 2), intIn (v i 3), intIn (v i 4), intIn (v i 5), intIn (v i 6), intIn (v i 7), intIn (v i 8), boolIn (v i 9), textIn (v i 10)⟩, fun h0 => ?_⟩
  obtain ⟨b, off, e, hb, hc⟩ := h.2.2 h0
  refine ⟨b, off, e, hb, fun i hi j hj => ?_⟩
  have h1 := hc i hi j (by simpa using hj)
  have e11 : ([.int .i64, .int .i64, .int .i64, .int .i64, .int .i64, .int .i64, .int .i64, .int .i64, .int .i64, .bool, .string] : List TypeDesc).length = 11 := rfl
  rw [e11] at h1
  rw [Nat.add_assoc, h1]
  obtain ⟨_, hk⟩ := h.2.1 i hi
  have hI : ∀ q, ([.int .i64, .int .i64, .int .i64, .int .i64, .int .i64, .int .i64, .int .i64, .int .i64, .int .i64, .bool, .string] : List TypeDesc)[q]? = some (.int .i64) → v i q = .int .i64 (intIn (v i q)) := fun q hq => by
    obtain ⟨x, hx, _⟩ := hk q _ hq
    show v i q = _
    have : v i q = .int .i64 x := hx
    rw [this]; rfl
  show some (v i j) = _
  match j, hj with
  | 0, _ => exact congrArg some (hI 0 rfl)
  | 1, _ => exact congrArg some (hI 1 rfl)
  | 2, _ => exact congrArg some (hI 2 rfl)
  | 3, _ => exact congrArg some (hI 3 rfl)
  | 4, _ => exact congrArg some (hI 4 rfl)
  | 5, _ => exact congrArg some (hI 5 rfl)
  | 6, _ => exact congrArg some (hI 6 rfl)
  | 7, _ => exact congrArg some (hI 7 rfl)
  | 8, _ => exact congrArg some (hI 8 rfl)
  | 9, _ =>
    obtain ⟨x, hx⟩ := hk 9 _ rfl
    have : v i 9 = .bool x := hx
    refine congrArg some (?_ : v i 9 = .bool (boolIn (v i 9)))
    rw [this]; rfl
  | 10, _ =>
    obtain ⟨x, hx, _⟩ := hk 10 _ rfl
    have : v i 10 = .string x := hx
    refine congrArg some (?_ : v i 10 = .string (textIn (v i 10)))
    rw [this]; rfl

set_option maxHeartbeats 8000000 in
theorem yes (w : World) (A : Option Addr) (n c : Nat) (ts : Nat → Tm) (h : Terms w A n ts) (hn : n ≤ 60) (B : Option Addr) (m d : Nat) (os : Nat → Ou) (ho : Outs w B m os) (hm : m ≤ 60) (hr : rtB ts n = true) :
    Calls Try.prog 6 #[.slice A n c, .slice B m d] w fun e w' => e = .returned (.bool true) ∧ Below w.heap.size w w' := by
  have A0 : Below w.heap.size w w := Below.refl _ _
  have t0 : decide (60 < (n : Int)) = false := decide_eq_false (by omega)
  have t1 : decide (60 < (m : Int)) = false := decide_eq_false (by omega)
  have H1 := Lib.hid (mo_new A n c ts w h hr)
  have H2 := Lib.hid (fun W (hb : Below w.heap.size w W) => r8_new A n c ts W (h.below hb) hr)
  have H3 := Lib.hid (fun K f k W (hb : Below w.heap.size w W) (hk : Ints W K n (kpL ts n os k)) => mo_next A n c ts K f (kpL ts n os k) (os k) W (h.below hb) hk hr)
  have H4 := Lib.hid (fun K f k W (hb : Below w.heap.size w W) (hk : Ints W K n (kpL ts n os k)) => r8_step A n c ts K f (kpL ts n os k) (os k) W (h.below hb) hk (kp_bd ts n os k) hr)
  have H5 := Lib.hid (fun W (hb : Below w.heap.size w W) => mo_run A n c ts B m d os W (h.below hb) (ho.below hb) hr (by omega))
  have H6 := Lib.hid (fun W (hb : Below w.heap.size w W) => r8_run A n c ts B m d os W (h.below hb) (ho.below hb) hr (by omega))
  have HO := Lib.hid ho
  unfold Ou.cells at H3 H4
  clear h ho
  go_enter Try.func6, Try.ntmps6
  go_wp2_with (fail)
  refine H1.out.mono ?_
  rintro e w1 ⟨g1, rfl, C1, _, hb⟩
  have A1 := below_call A0 hb
  have K1 := Lib.hid (show Ints w1 (some ⟨g1, 0, none⟩) n (kpL ts n os 0) from C1.ints)
  clear hb A0 H1 C1
  go_wp2_with (fail)
  refine (H2.out _ A1).mono ?_
  rintro e w2 ⟨B2, d2, rfl, own2, hb⟩
  have A2 := below_call A1 hb
  have K1' := Lib.hid (K1.out.below hb)
  have K2 := Lib.hid (show Ints w2 B2 n (kpL ts n os 0) from Ints.of_own own2 (frL_len ts n))
  clear hb A1 H2 own2 K1
  go_wp2_with (fail)
  refine (same_listI K1'.out K2.out (by omega) (by omega)).mono ?_
  rintro e w3 ⟨rfl, hb⟩
  have A3 := below_call A2 hb
  have K1 := Lib.hid (K1'.out.below hb)
  have K3 := Lib.hid (K2.out.below hb)
  clear hb A2 K1' K2
  go_wp2
  go_loopg [5, 7, 42] m (fun gk z y i wr => ∃ (k g : Nat) (K : Option Addr) (f : Nat), k ≤ m ∧ gk = m - k ∧ i = .int .i64 k ∧ z = .slice (some ⟨g, 0, none⟩) n n ∧ y = .slice K n f ∧ Ints wr (some ⟨g, 0, none⟩) n (kpL ts n os k) ∧ Ints wr K n (kpL ts n os k) ∧ Below w.heap.size w wr)
  case atStart => exact ⟨0, g1, B2, d2, by omega, rfl, rfl, rfl, rfl, K1.out, K3.out, A3⟩
  case round =>
    clear K1 K3 A3
    obtain ⟨k, g, K, f, hk, rfl, rfl, rfl, rfl, I1, I2, A3⟩ := hrel
    by_cases hlt : k < m
    · have HC3 := Lib.hid (H3.out (some ⟨g, 0, none⟩) n k wr A3 I1)
      have HC4 := Lib.hid (fun W (hb : Below w.heap.size w W) (hk : Ints W K n (kpL ts n os k)) => H4.out K f k W hb hk)
      have J2 := Lib.hid I2
      obtain ⟨b, off, rfl, hbs, hcell⟩ := (HO.out.below A3) (by omega)
      have c0 : wr.cell? ⟨b, off + k * 11, none⟩ = some (.int .i64 (os k).tick) := hcell k hlt 0 (by omega)
      have c1 : wr.cell? ⟨b, off + k * 11 + 1, none⟩ = some (.int .i64 (os k).mode) := hcell k hlt 1 (by omega)
      have c2 : wr.cell? ⟨b, off + k * 11 + 2, none⟩ = some (.int .i64 (os k).latch) := hcell k hlt 2 (by omega)
      have c3 : wr.cell? ⟨b, off + k * 11 + 3, none⟩ = some (.int .i64 (os k).notes) := hcell k hlt 3 (by omega)
      have c4 : wr.cell? ⟨b, off + k * 11 + 4, none⟩ = some (.int .i64 (os k).level) := hcell k hlt 4 (by omega)
      have c5 : wr.cell? ⟨b, off + k * 11 + 5, none⟩ = some (.int .i64 (os k).buzzer) := hcell k hlt 5 (by omega)
      have c6 : wr.cell? ⟨b, off + k * 11 + 6, none⟩ = some (.int .i64 (os k).opn) := hcell k hlt 6 (by omega)
      have c7 : wr.cell? ⟨b, off + k * 11 + 7, none⟩ = some (.int .i64 (os k).pos) := hcell k hlt 7 (by omega)
      have c8 : wr.cell? ⟨b, off + k * 11 + 8, none⟩ = some (.int .i64 (os k).volume) := hcell k hlt 8 (by omega)
      have c9 : wr.cell? ⟨b, off + k * 11 + 9, none⟩ = some (.bool (os k).drop) := hcell k hlt 9 (by omega)
      have c10 : wr.cell? ⟨b, off + k * 11 + 10, none⟩ = some (.string (os k).frame) := hcell k hlt 10 (by omega)
      clear hcell I1 I2
      generalize hv : skF ts (kpL ts n os k) (os k) n 0 = v at *
      clear hv
      go_wp2_with (fail)
      refine HC3.out.mono ?_
      rintro e w4 ⟨g4, rfl, N4, _, hb⟩
      have A4 := below_call A3 hb
      have J4 := Lib.hid (show Ints w4 (some ⟨g4, 0, none⟩) n (kpL ts n os (k + 1)) from N4.ints)
      have J2' := Lib.hid (J2.out.below hb)
      have d0 : w4.cell? ⟨b, off + k * 11, none⟩ = some (.int .i64 (os k).tick) := (hb.cell (p := ⟨b, off + k * 11, none⟩) hbs).trans c0
      have d1 : w4.cell? ⟨b, off + k * 11 + 1, none⟩ = some (.int .i64 (os k).mode) := (hb.cell (p := ⟨b, off + k * 11 + 1, none⟩) hbs).trans c1
      have d2 : w4.cell? ⟨b, off + k * 11 + 2, none⟩ = some (.int .i64 (os k).latch) := (hb.cell (p := ⟨b, off + k * 11 + 2, none⟩) hbs).trans c2
      have d3 : w4.cell? ⟨b, off + k * 11 + 3, none⟩ = some (.int .i64 (os k).notes) := (hb.cell (p := ⟨b, off + k * 11 + 3, none⟩) hbs).trans c3
      have d4 : w4.cell? ⟨b, off + k * 11 + 4, none⟩ = some (.int .i64 (os k).level) := (hb.cell (p := ⟨b, off + k * 11 + 4, none⟩) hbs).trans c4
      have d5 : w4.cell? ⟨b, off + k * 11 + 5, none⟩ = some (.int .i64 (os k).buzzer) := (hb.cell (p := ⟨b, off + k * 11 + 5, none⟩) hbs).trans c5
      have d6 : w4.cell? ⟨b, off + k * 11 + 6, none⟩ = some (.int .i64 (os k).opn) := (hb.cell (p := ⟨b, off + k * 11 + 6, none⟩) hbs).trans c6
      have d7 : w4.cell? ⟨b, off + k * 11 + 7, none⟩ = some (.int .i64 (os k).pos) := (hb.cell (p := ⟨b, off + k * 11 + 7, none⟩) hbs).trans c7
      have d8 : w4.cell? ⟨b, off + k * 11 + 8, none⟩ = some (.int .i64 (os k).volume) := (hb.cell (p := ⟨b, off + k * 11 + 8, none⟩) hbs).trans c8
      have d9 : w4.cell? ⟨b, off + k * 11 + 9, none⟩ = some (.bool (os k).drop) := (hb.cell (p := ⟨b, off + k * 11 + 9, none⟩) hbs).trans c9
      have d10 : w4.cell? ⟨b, off + k * 11 + 10, none⟩ = some (.string (os k).frame) := (hb.cell (p := ⟨b, off + k * 11 + 10, none⟩) hbs).trans c10
      clear c0 c1 c2 c3 c4 c5 c6 c7 c8 c9 c10 hb A3 HC3 N4 J2
      go_wp2_with (fail)
      refine (HC4.out _ A4 J2'.out).mono ?_
      rintro e w5 ⟨B5, f5, rfl, own5, hb⟩
      have A5 := below_call A4 hb
      have J5 := Lib.hid (J4.out.below hb)
      have L5 := Lib.hid (show Ints w5 B5 n (kpL ts n os (k + 1)) from Ints.of_own own5 (nxL_len ts _ _ n))
      clear d0 d1 d2 d3 d4 d5 d6 d7 d8 d9 d10 hb A4 HC4 own5 J4 J2'
      go_wp2_with (fail)
      refine (same_listI J5.out L5.out (by omega) (by omega)).mono ?_
      rintro e w6 ⟨rfl, hb⟩
      have A6 := below_call A5 hb
      have J6 := Lib.hid (J5.out.below hb)
      have L6 := Lib.hid (L5.out.below hb)
      clear hb A5 J5 L5
      go_wp2
      go_roundg (m - (k + 1))
      case measure => omega
      case rel => exact ⟨k + 1, g4, B5, f5, by omega, by omega, by go_num, rfl, rfl, J6.out, L6.out, A6⟩
    · obtain rfl : k = m := by omega
      clear I1 I2 H3 H4 HO
      go_wp2_with (fail)
      refine (H5.out _ A3).mono ?_
      rintro e w4 ⟨g4, rfl, C4, _, hb⟩
      have A4 := below_call A3 hb
      have T4 := Lib.hid (show Truths w4 (some ⟨g4, 0, none⟩) k (ruL ts n os k) from C4.truths)
      clear hb A3 C4 H5
      go_wp2_with (fail)
      refine (H6.out _ A4).mono ?_
      rintro e w5 ⟨P, f5, rfl, T5, hb⟩
      have A5 := below_call A4 hb
      have T4' := Lib.hid (T4.out.below hb)
      have T5' := Lib.hid T5
      clear hb A4 T4 T5 H6
      go_wp2_with (fail)
      refine (same_truths (by omega) T4'.out T5'.out).mono ?_
      rintro e w6 ⟨rfl, hb⟩
      have A6 := below_call A5 hb
      clear hb A5 T4' T5'
      go_wp2_with (go_at_call 17; refine (law58_awake _).mono ?_; rintro e w' ⟨rfl, hb'⟩)
      go_ret
      exact ⟨rfl, below_call A6 hb'⟩

set_option maxHeartbeats 8000000 in
theorem no (w : World) (A : Option Addr) (n c : Nat) (ts : Nat → Tm) (h : Terms w A n ts) (hn : n ≤ 60) (B : Option Addr) (m d : Nat) (os : Nat → Ou) (ho : Outs w B m os) (hm : m ≤ 60) (hr : rtB ts n = false) :
    Calls Try.prog 6 #[.slice A n c, .slice B m d] w fun e w' => e = .returned (.bool true) ∧ Below w.heap.size w w' := by
  have A0 : Below w.heap.size w w := Below.refl _ _
  have t0 : decide (60 < (n : Int)) = false := decide_eq_false (by omega)
  have t1 : decide (60 < (m : Int)) = false := decide_eq_false (by omega)
  have H1 := Lib.hid (mo_new_no A n c ts w h hr)
  have H2 := Lib.hid (fun W (hb : Below w.heap.size w W) => r8_new_no A n c ts W (h.below hb) hr)
  have H3 := Lib.hid (fun k W (hb : Below w.heap.size w W) => mo_next_no A n c ts (os k) W (h.below hb) hr)
  have H4 := Lib.hid (fun k W (hb : Below w.heap.size w W) => r8_step_no A n c ts (os k) W (h.below hb) hr)
  have H5 := Lib.hid (fun W (hb : Below w.heap.size w W) => mo_run_no A n c ts B m d W (h.below hb) hr (by omega))
  have H6 := Lib.hid (fun W (hb : Below w.heap.size w W) => r8_run_no A n c ts B m d W (h.below hb) hr (by omega))
  have HO := Lib.hid ho
  have HZ := fun W => same_listI (A := none) (B := none) (n := 0) (m := 0) (c := 0) (d := 0) (xs := []) (w := W) ⟨rfl, fun h => absurd h (by omega)⟩ ⟨rfl, fun h => absurd h (by omega)⟩ (by omega) (by omega)
  have HZ := Lib.hid HZ
  unfold Ou.cells at H3 H4
  clear h ho
  go_enter Try.func6, Try.ntmps6
  go_wp2_with (fail)
  refine H1.out.mono ?_
  rintro e w1 ⟨rfl, hb⟩
  have A1 := below_call A0 hb
  clear hb A0 H1
  go_wp2_with (fail)
  refine (H2.out _ A1).mono ?_
  rintro e w2 ⟨rfl, hb⟩
  have A2 := below_call A1 hb
  clear hb A1 H2
  go_wp2_with (fail)
  refine (HZ.out _).mono ?_
  rintro e w3 ⟨rfl, hb⟩
  have A3 := below_call A2 hb
  clear hb A2
  go_wp2
  go_loopg [5, 7, 42] m (fun gk z y i wr => ∃ k : Nat, k ≤ m ∧ gk = m - k ∧ i = .int .i64 k ∧ z = .slice none 0 0 ∧ y = .slice none 0 0 ∧ Below w.heap.size w wr)
  case atStart => exact ⟨0, by omega, rfl, rfl, rfl, rfl, A3⟩
  case round =>
    clear A3
    obtain ⟨k, hk, rfl, rfl, rfl, rfl, A3⟩ := hrel
    by_cases hlt : k < m
    · have HC3 := Lib.hid (H3.out k wr A3)
      have HC4 := Lib.hid (fun W (hb : Below w.heap.size w W) => H4.out k W hb)
      obtain ⟨b, off, rfl, hbs, hcell⟩ := (HO.out.below A3) (by omega)
      have c0 : wr.cell? ⟨b, off + k * 11, none⟩ = some (.int .i64 (os k).tick) := hcell k hlt 0 (by omega)
      have c1 : wr.cell? ⟨b, off + k * 11 + 1, none⟩ = some (.int .i64 (os k).mode) := hcell k hlt 1 (by omega)
      have c2 : wr.cell? ⟨b, off + k * 11 + 2, none⟩ = some (.int .i64 (os k).latch) := hcell k hlt 2 (by omega)
      have c3 : wr.cell? ⟨b, off + k * 11 + 3, none⟩ = some (.int .i64 (os k).notes) := hcell k hlt 3 (by omega)
      have c4 : wr.cell? ⟨b, off + k * 11 + 4, none⟩ = some (.int .i64 (os k).level) := hcell k hlt 4 (by omega)
      have c5 : wr.cell? ⟨b, off + k * 11 + 5, none⟩ = some (.int .i64 (os k).buzzer) := hcell k hlt 5 (by omega)
      have c6 : wr.cell? ⟨b, off + k * 11 + 6, none⟩ = some (.int .i64 (os k).opn) := hcell k hlt 6 (by omega)
      have c7 : wr.cell? ⟨b, off + k * 11 + 7, none⟩ = some (.int .i64 (os k).pos) := hcell k hlt 7 (by omega)
      have c8 : wr.cell? ⟨b, off + k * 11 + 8, none⟩ = some (.int .i64 (os k).volume) := hcell k hlt 8 (by omega)
      have c9 : wr.cell? ⟨b, off + k * 11 + 9, none⟩ = some (.bool (os k).drop) := hcell k hlt 9 (by omega)
      have c10 : wr.cell? ⟨b, off + k * 11 + 10, none⟩ = some (.string (os k).frame) := hcell k hlt 10 (by omega)
      clear hcell
      go_wp2_with (fail)
      refine HC3.out.mono ?_
      rintro e w4 ⟨rfl, hb⟩
      have A4 := below_call A3 hb
      have d0 : w4.cell? ⟨b, off + k * 11, none⟩ = some (.int .i64 (os k).tick) := (hb.cell (p := ⟨b, off + k * 11, none⟩) hbs).trans c0
      have d1 : w4.cell? ⟨b, off + k * 11 + 1, none⟩ = some (.int .i64 (os k).mode) := (hb.cell (p := ⟨b, off + k * 11 + 1, none⟩) hbs).trans c1
      have d2 : w4.cell? ⟨b, off + k * 11 + 2, none⟩ = some (.int .i64 (os k).latch) := (hb.cell (p := ⟨b, off + k * 11 + 2, none⟩) hbs).trans c2
      have d3 : w4.cell? ⟨b, off + k * 11 + 3, none⟩ = some (.int .i64 (os k).notes) := (hb.cell (p := ⟨b, off + k * 11 + 3, none⟩) hbs).trans c3
      have d4 : w4.cell? ⟨b, off + k * 11 + 4, none⟩ = some (.int .i64 (os k).level) := (hb.cell (p := ⟨b, off + k * 11 + 4, none⟩) hbs).trans c4
      have d5 : w4.cell? ⟨b, off + k * 11 + 5, none⟩ = some (.int .i64 (os k).buzzer) := (hb.cell (p := ⟨b, off + k * 11 + 5, none⟩) hbs).trans c5
      have d6 : w4.cell? ⟨b, off + k * 11 + 6, none⟩ = some (.int .i64 (os k).opn) := (hb.cell (p := ⟨b, off + k * 11 + 6, none⟩) hbs).trans c6
      have d7 : w4.cell? ⟨b, off + k * 11 + 7, none⟩ = some (.int .i64 (os k).pos) := (hb.cell (p := ⟨b, off + k * 11 + 7, none⟩) hbs).trans c7
      have d8 : w4.cell? ⟨b, off + k * 11 + 8, none⟩ = some (.int .i64 (os k).volume) := (hb.cell (p := ⟨b, off + k * 11 + 8, none⟩) hbs).trans c8
      have d9 : w4.cell? ⟨b, off + k * 11 + 9, none⟩ = some (.bool (os k).drop) := (hb.cell (p := ⟨b, off + k * 11 + 9, none⟩) hbs).trans c9
      have d10 : w4.cell? ⟨b, off + k * 11 + 10, none⟩ = some (.string (os k).frame) := (hb.cell (p := ⟨b, off + k * 11 + 10, none⟩) hbs).trans c10
      clear c0 c1 c2 c3 c4 c5 c6 c7 c8 c9 c10 hb A3 HC3
      go_wp2_with (fail)
      refine (HC4.out _ A4).mono ?_
      rintro e w5 ⟨rfl, hb⟩
      have A5 := below_call A4 hb
      clear d0 d1 d2 d3 d4 d5 d6 d7 d8 d9 d10 hb A4 HC4
      go_wp2_with (fail)
      refine (HZ.out _).mono ?_
      rintro e w6 ⟨rfl, hb⟩
      have A6 := below_call A5 hb
      clear hb A5
      go_wp2
      go_roundg (m - (k + 1))
      case measure => omega
      case rel => exact ⟨k + 1, by omega, by omega, by go_num, rfl, rfl, A6⟩
    · obtain rfl : k = m := by omega
      clear H3 H4 HO HZ
      go_wp2_with (fail)
      refine (H5.out _ A3).mono ?_
      rintro e w4 ⟨g4, rfl, C4, hb⟩
      have A4 := below_call A3 hb
      have T4 := Lib.hid (show Truths w4 (some ⟨g4, 0, none⟩) k (noL k) from C4.truths)
      clear hb A3 C4 H5
      go_wp2_with (fail)
      refine (H6.out _ A4).mono ?_
      rintro e w5 ⟨P, f5, rfl, T5, hb⟩
      have A5 := below_call A4 hb
      have T4' := Lib.hid (T4.out.below hb)
      have T5' := Lib.hid T5
      clear hb A4 T4 T5 H6
      go_wp2_with (fail)
      refine (same_truths (by omega) T4'.out T5'.out).mono ?_
      rintro e w6 ⟨rfl, hb⟩
      have A6 := below_call A5 hb
      clear hb A5 T4' T5'
      go_wp2_with (go_at_call 17; refine (law58_awake _).mono ?_; rintro e w' ⟨rfl, hb'⟩)
      go_ret
      exact ⟨rfl, below_call A6 hb'⟩

theorem walk (w : World) (A : Option Addr) (n c : Nat) (rs : List (List Value)) (hi : Rows [.int .i64, .int .i64, .int .i64] w A n rs) (hc : n ≤ c) (hr : n * 24 ≤ 140737488351232)
    (B : Option Addr) (m d : Nat) (ro : List (List Value)) (ho : Rows [.int .i64, .int .i64, .int .i64, .int .i64, .int .i64, .int .i64, .int .i64, .int .i64, .int .i64, .bool, .string] w B m ro) (hd : m ≤ d) (hq : m * 96 ≤ 140737488351232) :
    Calls Try.prog 6 #[.slice A n c, .slice B m d] w fun e w' => e = .returned (.bool true) ∧ Below w.heap.size w w' := by
  obtain ⟨ts, h⟩ := Terms.of_rows hi
  obtain ⟨os, hos⟩ := outs_of_rows ho
  clear hi ho
  by_cases hn : n ≤ 60
  · by_cases hm : m ≤ 60
    · cases hrt : rtB ts n
      · exact no w A n c ts h hn B m d os hos hm hrt
      · exact yes w A n c ts h hn B m d os hos hm hrt
    · have t0 : decide (60 < (n : Int)) = false := decide_eq_false (by omega)
      have t1 : decide (60 < (m : Int)) = true := decide_eq_true (by omega)
      clear h hos hn hm
      go_enter Try.func6, Try.ntmps6
      go_wp2_with (go_at_call 17; refine (law58_awake _).mono ?_; rintro e w' ⟨rfl, hb'⟩)
      go_ret
      exact ⟨rfl, hb'⟩
  · have t0 : decide (60 < (n : Int)) = true := decide_eq_true (by omega)
    clear h hos hn
    go_enter Try.func6, Try.ntmps6
    go_wp2_with (go_at_call 17; refine (law58_awake _).mono ?_; rintro e w' ⟨rfl, hb'⟩)
    go_ret
    exact ⟨rfl, hb'⟩

set_option maxRecDepth 100000 in
theorem lifted (os : Os) (started : os.Started) (H : Type) (enc : TypeId × Value → H) :
    ReturnsInHanded {} Try.checked os 6 .any (Rows.monitorSaysSpec.pre6 enc Try.prog Try.f6 Rows.monitorSaysRow.domain false) (Rows.monitorSaysSpec.post enc Try.prog Try.f6 false true false false) := by
  refine law_lift started (by kernel_rfl) Try.func6 rfl rfl ?_ (by kernel_rfl)
    (ChangeSpec.witness6 (enc := enc) (C := Try.checked) false ⟨#[], #[.slice none 0 0, .slice none 0 0], []⟩ 8 (by kernel_rfl) (by kernel_rfl) (by kernel_rfl) (by kernel_rfl)) ?_
  · intro ds hl
    match ds, hl with
    | [_, _], _ => exact ⟨rfl, rfl, rfl⟩
  · intro W base args ds p hval hA hlt hwt
    rw [Try.params6] at hA hval hwt
    obtain ⟨v0, vs0, d0, ds0, p0, q0, hargs, rfl, rfl, h0, r0⟩ := trodAll_cons hA
    obtain ⟨v1, vs1, d1, ds1, p1, q1, rfl, rfl, rfl, h1, r1⟩ := trodAll_cons r0
    obtain ⟨rfl, rfl, rfl⟩ := trodAll_nil r1
    obtain rfl : args = #[v0, v1] := by cases args; simp_all
    have wt0 : ∀ n ∈ d0.weights Try.prog 22, n ≤ reachBytes := fun n hn => by
      have := List.all_eq_true.1 hwt n (DataW.weights_mem_each (j := 0) (t := 22) (d := d0) rfl rfl n hn)
      simpa using this
    have lt0 : ∀ x ∈ p0, x.block < W.heap.size := fun x hx => hlt x (by simp [hx])
    obtain ⟨A0, n0, c0, xs0, rfl, hi0, hc0, hr0⟩ := open_rows_arg (nb := 24) 5 [.int .i64, .int .i64, .int .i64] Try.underlying22 (by kernel_rfl) (by kernel_rfl) (by decide) (by kernel_rfl) (hval 0 22 v0 rfl rfl) h0 lt0 wt0
    have wt1 : ∀ n ∈ d1.weights Try.prog 23, n ≤ reachBytes := fun n hn => by
      have := List.all_eq_true.1 hwt n (DataW.weights_mem_each (j := 1) (t := 23) (d := d1) rfl rfl n hn)
      simpa using this
    have lt1 : ∀ x ∈ p1, x.block < W.heap.size := fun x hx => hlt x (by simp [hx])
    obtain ⟨A1, n1, c1, xs1, rfl, hi1, hc1, hr1⟩ := open_rows_arg 5 [.int .i64, .int .i64, .int .i64, .int .i64, .int .i64, .int .i64, .int .i64, .int .i64, .int .i64, .bool, .string] Try.underlying23 (by kernel_rfl) (by kernel_rfl) (by decide) (by kernel_rfl) (hval 1 23 v1 rfl rfl) h1 lt1 wt1
    exact walk W A0 n0 c0 xs0 hi0 hc0 hr0 A1 n1 c1 xs1 hi1 hc1 hr1

theorem over : Rows.monitorSaysRow.holds Try.pinned (OpenSpec.ofChange Rows.monitorSaysSpec) :=
  OpenClaim.holds_of_wide 6 Try.f6 rfl rfl rfl rfl rfl rfl rfl ⟨rfl, rfl, rfl, rfl, rfl⟩ rfl rfl rfl rfl rfl (by kernel_rfl) Try.func6 (by kernel_rfl)
    (of_decide_eq_true (by kernel_rfl)) (by unfold Func.isWrapper; first | (rw [if_pos (by decide +kernel)]; kernel_rfl) | (rw [if_neg (by decide +kernel)]; exact ⟨rfl, rfl⟩))
    (fun os started H enc _ => lifted os started H enc)

theorem proved : Rows.MonitorSaysSaid := over
#print axioms proved
end Go.Proofs.Ytngmggccijmhfaa.monitorSays
