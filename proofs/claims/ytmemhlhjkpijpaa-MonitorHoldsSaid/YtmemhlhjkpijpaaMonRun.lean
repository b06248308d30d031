/- Contracts of package monitor: a run. -/
import Derived.Test.YtmemhlhjkpijpaaMonR
import Derived.Test.YtmemhlhjkpijpaaOuts
namespace Go.Proofs.Ytmemhlhjkpijpaa
open Go.RowKit
set_option linter.unusedVariables false
set_option linter.unusedSimpArgs false
set_option maxRecDepth 100000
attribute [local go_sem] cell_set_ite Near.cell Near.frozen

/-- What is kept ahead of tick k; whether it is so in tick k. -/
def kpL (ts : Nat → Tm) (n : Nat) (os : Nat → Ou) : Nat → List Int
  | 0 => (List.range n).map (fun i => frV (ts i).op)
  | k + 1 => (List.range n).map (nxV ts (kpL ts n os k) (os k))
def ruB (ts : Nat → Tm) (n : Nat) (os : Nat → Ou) (k : Nat) : Bool := skF ts (kpL ts n os k) (os k) n 0
theorem kpL_len (ts : Nat → Tm) (n : Nat) (os : Nat → Ou) (k : Nat) : (kpL ts n os k).length = n := by
  cases k <;> simp [kpL]

set_option maxHeartbeats 8000000 in
theorem mo_run (A : Option Addr) (n c : Nat) (ts : Nat → Tm) (B : Option Addr) (m d : Nat) (os : Nat → Ou) (w : World) (h : Terms w A n ts) (ho : Outs w B m os) (hr : rtB ts n = true) (hm : m ≤ 100000) :
    Calls Try.prog 16 #[.slice A n c, .slice B m d] w fun e w' => ∃ g, e = .returned (.slice (some ⟨g, 0, none⟩) m m) ∧ Col w' g m (fun i => .bool (ruB ts n os i)) ∧ w.heap.size ≤ g ∧ Below w.heap.size w w' := by
  have hn : n ≤ 40 := by
    have hr2 := hr
    unfold rtB at hr2
    have : n ≤ 40 ∧ okB ts n = true ∧ rdN ts n = 1 := by simpa using hr2
    exact this.1
  have A0 : Below w.heap.size w w := Below.refl _ _
  have HO := Lib.hid ho
  have HR := Lib.hid (fun w' (hb : Below w.heap.size w w') => fo_right A n c ts w' (h.below hb))
  have HF := Lib.hid (fun w' (hb : Below w.heap.size w w') => mo_fresh A n c ts w' (h.below hb) (by omega))
  have HS := Lib.hid (fun K ks o w' (hb : Below w.heap.size w w') (hk : Ints w' K n ks) => mo_step A n c ts K n ks o w' (h.below hb) hk hr)
  rw [hr] at HR
  obtain ⟨j0, hj0, hy0, hy1, hy2⟩ := info_parts truth_info
  have hmt := fun w => run_make (P := Try.prog) w 40 4 j0 _ Try.underlying40 hj0 hy0 .i64 .i64 m m (by omega) (by omega) (by rw [hy2]; omega) (by omega)
  simp only [hy1, Int.toNat_natCast, Nat.mul_one, show (Value.bool false).cells = #[.bool false] from rfl] at hmt
  have C1 := col_new w m (.bool false) 4
  have A1 := below_alloc_on (Below.refl w.heap.size w) (.cells (madeCells #[.bool false] m) 4)
  clear h hr ho hy0 hy1 hy2 hj0 A0
  go_enter Try.func16, Try.ntmps16
  go_wp2_with (fail)
  obtain ⟨sb, hsb⟩ : ∃ sb, w.heap.size = sb := ⟨_, rfl⟩
  have ws : w.heap.size ≤ sb := by omega
  rw [hsb] at C1
  simp only [hsb]
  clear hmt hsb
  generalize w.alloc (.cells (madeCells #[.bool false] m) 4) = w1 at *
  refine (HR.out _ A1).mono ?_
  rintro e w2 ⟨rfl, hb⟩
  have A2 := below_call A1 hb
  have C2 := C1.below hb
  clear hb A1 C1 HR
  go_wp2_with (fail)
  refine (HF.out _ A2).mono ?_
  rintro e w3 ⟨g0, rfl, K3, wg, hb⟩
  have A3 := below_call A2 hb
  have C3 := C2.below hb
  have ng : sb ≠ g0 := by have := C2.lt; omega
  have K3' := Lib.hid K3
  clear hb A2 C2 HF wg K3
  go_wp2
  go_loopg [6, 20] m (fun gk x i wr => ∃ (k g : Nat), k ≤ m ∧ gk = m - k ∧ i = .int .i64 k ∧ x = .slice (some ⟨g, 0, none⟩) n n ∧ sb ≠ g ∧ Below w.heap.size w wr ∧ Ints wr (some ⟨g, 0, none⟩) n (kpL ts n os k) ∧ Col wr sb m (fun i => if i < k then .bool (ruB ts n os i) else .bool false))
  case atStart => exact ⟨0, g0, by omega, rfl, rfl, rfl, ng, A3, K3'.out.ints, C3.congr (fun i _ => by rw [if_neg (by omega)])⟩
  case round =>
    clear A3 C3 K3' ng
    obtain ⟨k, g, hk, rfl, rfl, rfl, ng, A1, K1, C1⟩ := hrel
    by_cases hlt : k < m
    · obtain ⟨b, off, rfl, hbs, hcell⟩ := HO.out (by omega)
      have HKS := Lib.hid (fun w' (hb : Below w.heap.size w w') (hk : Ints w' (some ⟨g, 0, none⟩) n (kpL ts n os k)) => HS.out (some ⟨g, 0, none⟩) (kpL ts n os k) (os k) w' hb hk)
      have HNX := Lib.hid (show kpL ts n os (k + 1) = (List.range n).map (nxV ts (kpL ts n os k) (os k)) from rfl)
      have HB := Lib.hid (show ruB ts n os k = skF ts (kpL ts n os k) (os k) n 0 from rfl)
      unfold Ou.cells at HKS
      have c0 : wr.cell? ⟨b, off + k * 11, none⟩ = some (.int .i64 (os k).tick) := (A1.cell (p := ⟨b, off + k * 11, none⟩) hbs).trans (hcell k hlt 0 (by omega))
      have c1 : wr.cell? ⟨b, off + k * 11 + 1, none⟩ = some (.int .i64 (os k).mode) := (A1.cell (p := ⟨b, off + k * 11 + 1, none⟩) hbs).trans (hcell k hlt 1 (by omega))
      have c2 : wr.cell? ⟨b, off + k * 11 + 2, none⟩ = some (.int .i64 (os k).latch) := (A1.cell (p := ⟨b, off + k * 11 + 2, none⟩) hbs).trans (hcell k hlt 2 (by omega))
      have c3 : wr.cell? ⟨b, off + k * 11 + 3, none⟩ = some (.int .i64 (os k).notes) := (A1.cell (p := ⟨b, off + k * 11 + 3, none⟩) hbs).trans (hcell k hlt 3 (by omega))
      have c4 : wr.cell? ⟨b, off + k * 11 + 4, none⟩ = some (.int .i64 (os k).level) := (A1.cell (p := ⟨b, off + k * 11 + 4, none⟩) hbs).trans (hcell k hlt 4 (by omega))
      have c5 : wr.cell? ⟨b, off + k * 11 + 5, none⟩ = some (.int .i64 (os k).buzzer) := (A1.cell (p := ⟨b, off + k * 11 + 5, none⟩) hbs).trans (hcell k hlt 5 (by omega))
      have c6 : wr.cell? ⟨b, off + k * 11 + 6, none⟩ = some (.int .i64 (os k).opn) := (A1.cell (p := ⟨b, off + k * 11 + 6, none⟩) hbs).trans (hcell k hlt 6 (by omega))
      have c7 : wr.cell? ⟨b, off + k * 11 + 7, none⟩ = some (.int .i64 (os k).pos) := (A1.cell (p := ⟨b, off + k * 11 + 7, none⟩) hbs).trans (hcell k hlt 7 (by omega))
      have c8 : wr.cell? ⟨b, off + k * 11 + 8, none⟩ = some (.int .i64 (os k).volume) := (A1.cell (p := ⟨b, off + k * 11 + 8, none⟩) hbs).trans (hcell k hlt 8 (by omega))
      have c9 : wr.cell? ⟨b, off + k * 11 + 9, none⟩ = some (.bool (os k).drop) := (A1.cell (p := ⟨b, off + k * 11 + 9, none⟩) hbs).trans (hcell k hlt 9 (by omega))
      have c10 : wr.cell? ⟨b, off + k * 11 + 10, none⟩ = some (.string (os k).frame) := (A1.cell (p := ⟨b, off + k * 11 + 10, none⟩) hbs).trans (hcell k hlt 10 (by omega))
      have HC := Lib.hid C1
      have HK := Lib.hid K1
      have A2 := below_alloc_on A1 (.cells #[.int .i64 (os k).tick, .int .i64 (os k).mode, .int .i64 (os k).latch, .int .i64 (os k).notes, .int .i64 (os k).level, .int .i64 (os k).buzzer, .int .i64 (os k).opn, .int .i64 (os k).pos, .int .i64 (os k).volume, .bool (os k).drop, .string (os k).frame] 29)
      clear hcell C1 K1
      go_upto_region 8 with (fail)
      refine at_world (fun W => Below w.heap.size w W ∧ Ints W (some ⟨g, 0, none⟩) n (kpL ts n os k) ∧ Col W sb m (fun i => if i < k then .bool (ruB ts n os i) else .bool false) ∧ Box W wr.heap.size #[.int .i64 (os k).tick, .int .i64 (os k).mode, .int .i64 (os k).latch, .int .i64 (os k).notes, .int .i64 (os k).level, .int .i64 (os k).buzzer, .int .i64 (os k).opn, .int .i64 (os k).pos, .int .i64 (os k).volume, .bool (os k).drop, .string (os k).frame]) ⟨A2, HK.out.below (below_alloc_on (Below.refl _ _) _), HC.out.alloc _, box_new _ _ _⟩ ?_
      obtain ⟨xb, hxb⟩ : ∃ xb, wr.heap.size = xb := ⟨_, rfl⟩
      simp only [hxb]
      clear c0 c1 c2 c3 c4 c5 c6 c7 c8 c9 c10 A1 A2 HC HK hxb
      rintro w2 ⟨A2, K2, C2, BX⟩
      obtain ⟨lX, cX, fX⟩ := id BX
      have x0 : w2.cell? ⟨xb, 0, none⟩ = some (.int .i64 (os k).tick) := cX 0
      have x1 : w2.cell? ⟨xb, 1, none⟩ = some (.int .i64 (os k).mode) := cX 1
      have x2 : w2.cell? ⟨xb, 2, none⟩ = some (.int .i64 (os k).latch) := cX 2
      have x3 : w2.cell? ⟨xb, 3, none⟩ = some (.int .i64 (os k).notes) := cX 3
      have x4 : w2.cell? ⟨xb, 4, none⟩ = some (.int .i64 (os k).level) := cX 4
      have x5 : w2.cell? ⟨xb, 5, none⟩ = some (.int .i64 (os k).buzzer) := cX 5
      have x6 : w2.cell? ⟨xb, 6, none⟩ = some (.int .i64 (os k).opn) := cX 6
      have x7 : w2.cell? ⟨xb, 7, none⟩ = some (.int .i64 (os k).pos) := cX 7
      have x8 : w2.cell? ⟨xb, 8, none⟩ = some (.int .i64 (os k).volume) := cX 8
      have x9 : w2.cell? ⟨xb, 9, none⟩ = some (.bool (os k).drop) := cX 9
      have x10 : w2.cell? ⟨xb, 10, none⟩ = some (.string (os k).frame) := cX 10
      have lS := C2.lt
      have cS : w2.cell? ⟨sb, k, none⟩ = some (.bool false) := (C2.cell k hlt).trans (by rw [if_neg (by omega)])
      have HC := Lib.hid C2
      have HK := Lib.hid K2
      have km : (k : Int) < (m : Int) := by omega
      clear C2 K2 cX
      generalize hv : skF ts (kpL ts n os k) (os k) n 0 = v at *
      clear hv
      go_wp2_with (fail)
      refine (HKS.out _ A2 HK.out).mono ?_
      rintro e w3 ⟨g3, rfl, N3, wg3, hb⟩
      have A3 := below_call A2 hb
      have C3 := HC.out.below hb
      have cS3 : w3.cell? ⟨sb, k, none⟩ = some (.bool false) := (hb.cell (p := ⟨sb, k, none⟩) lS).trans cS
      have fS3 := C3.frz
      have lS3 := C3.lt
      have ng3 : sb ≠ g3 := Nat.ne_of_lt (Nat.lt_of_lt_of_le lS wg3)
      have HN3 := Lib.hid N3
      clear N3
      all_goals
        have C4 := Lib.hid ((C3.set hlt (.bool v)).congr (G := fun i => if i < k + 1 then .bool (ruB ts n os i) else .bool false) (fun i _ => by
          by_cases e2 : i = k
          · subst e2; rw [if_pos rfl, if_pos (by omega), HB.out]
          · rw [if_neg e2]
            by_cases e : i < k
            · rw [if_pos e, if_pos (by omega)]
            · rw [if_neg e, if_neg (by omega)]))
        have A4 := Lib.hid (below_set_on A3 (p := ⟨sb, k, none⟩) ws (.bool v))
        have K4 := Lib.hid ((HN3.out.far (p := ⟨sb, k, none⟩) ng3 (.bool v)).ints)
        clear lX fX x0 x1 x2 x3 x4 x5 x6 x7 x8 x9 x10 lS cS HC HK hb A3 C3 HN3 A2 HKS
        go_wp2
        go_roundg (m - (k + 1))
        case measure => omega
        case rel => exact ⟨k + 1, g3, by omega, by omega, by go_num, rfl, ng3, A4.out, by rw [HNX.out]; exact K4.out, C4.out⟩
    · obtain rfl : k = m := by omega
      have HC := Lib.hid (C1.congr (G := fun i => .bool (ruB ts n os i)) (fun i hi => by rw [if_pos hi]))
      clear C1 K1
      go_wp2
      all_goals go_ret
      all_goals exact ⟨sb, rfl, HC.out, ws, A1⟩
end Go.Proofs.Ytmemhlhjkpijpaa
