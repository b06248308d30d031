/- The law's Same, of two lists that are alike; and its awake. -/
import Derived.Test.YtjhdlcemeemlhaaRefOf
namespace Go.Proofs.Ytjhdlcemeemlhaa
open Go.RowKit Go.Maps
set_option linter.unusedVariables false
set_option linter.unusedSimpArgs false
set_option maxRecDepth 100000
attribute [local go_sem] cell_set_ite

set_option maxHeartbeats 2000000 in
theorem tr_same (A B : Option Addr) (n c d : Nat) (f : Nat → Bk) (w : World) (h1 : Bks w A n f) (h2 : Bks w B n f) (hc : n ≤ c) (hd : n ≤ d) (hn : n ≤ 1000) :
    Calls Try.prog 7 #[.slice A n c, .slice B n d] w fun e w' => e = .returned (.bool true) ∧ Below w.heap.size w w' := by
  have H1 := Lib.hid h1
  have H2 := Lib.hid h2
  have D0 : Below w.heap.size w w := Below.refl _ _
  clear h1 h2
  go_enter Try.func7, Try.ntmps7
  go_wp2_with (fail)
  go_loopw [5, 13] (fun _ i wr => ∃ k : Nat, k ≤ n ∧ i = .int .i64 k ∧ Below w.heap.size w wr) (fun _ i _ => n - (intOf i).toNat)
  case atStart => exact ⟨0, Nat.zero_le _, rfl, D0⟩
  case round =>
    obtain ⟨k, hk, rfl, B1⟩ := hrel
    by_cases hlt : k < n
    · obtain ⟨b, off, rfl, hb, hcell⟩ := H1.out.at_ (by omega)
      obtain ⟨b2, off2, rfl, hb2, hcell2⟩ := H2.out.at_ (by omega)
      obtain ⟨q0, q1, q2, q3, q4, q5, q6⟩ := hcell k hlt
      obtain ⟨r0, r1, r2, r3, r4, r5, r6⟩ := hcell2 k hlt
      have c0 := (B1.cell (p := ⟨b, off + k * 7, none⟩) hb).trans q0
      have c1 := (B1.cell (p := ⟨b, off + k * 7 + 1, none⟩) hb).trans q1
      have c2 := (B1.cell (p := ⟨b, off + k * 7 + 2, none⟩) hb).trans q2
      have c3 := (B1.cell (p := ⟨b, off + k * 7 + 3, none⟩) hb).trans q3
      have c4 := (B1.cell (p := ⟨b, off + k * 7 + 4, none⟩) hb).trans q4
      have c5 := (B1.cell (p := ⟨b, off + k * 7 + 5, none⟩) hb).trans q5
      have c6 := (B1.cell (p := ⟨b, off + k * 7 + 6, none⟩) hb).trans q6
      have d0 := (B1.cell (p := ⟨b2, off2 + k * 7, none⟩) hb2).trans r0
      have d1 := (B1.cell (p := ⟨b2, off2 + k * 7 + 1, none⟩) hb2).trans r1
      have d2 := (B1.cell (p := ⟨b2, off2 + k * 7 + 2, none⟩) hb2).trans r2
      have d3 := (B1.cell (p := ⟨b2, off2 + k * 7 + 3, none⟩) hb2).trans r3
      have d4 := (B1.cell (p := ⟨b2, off2 + k * 7 + 4, none⟩) hb2).trans r4
      have d5 := (B1.cell (p := ⟨b2, off2 + k * 7 + 5, none⟩) hb2).trans r5
      have d6 := (B1.cell (p := ⟨b2, off2 + k * 7 + 6, none⟩) hb2).trans r6
      clear q0 q1 q2 q3 q4 q5 q6 r0 r1 r2 r3 r4 r5 r6 hcell hcell2
      go_wp2_with (fail)
      go_region
      all_goals go_wp2_with (fail)
      all_goals go_roundw
      all_goals first
        | exact ⟨k + 1, by omega, by go_num, by (repeat (first | (with_reducible exact Below.refl _ _) | (with_reducible assumption) | (with_reducible refine Near.up _ ?_) | (with_reducible refine Below.drew ?_) | (with_reducible refine below_alloc_on ?_ _) | (with_reducible refine below_set_on ?_ (by first | (simp; done) | (simp; omega) | omega) _)))⟩
        | (simp [intOf]; omega)
    · obtain rfl : k = n := by omega
      go_wp2_with (fail)
      all_goals go_ret
      all_goals exact ⟨rfl, B1⟩
end Go.Proofs.Ytjhdlcemeemlhaa
