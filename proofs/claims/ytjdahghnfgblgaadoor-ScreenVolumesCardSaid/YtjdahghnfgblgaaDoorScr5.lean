/- What stands on the display of one face: the law package's own check. -/
import Derived.Test.YtjdahghnfgblgaaDoorScr4
import Derived.Test.YtjdahghnfgblgaaDoorScr2
import Derived.Test.YtjdahghnfgblgaaDoorMode
import Derived.Test.YtjdahghnfgblgaaDoorLatch
import Derived.Test.YtjdahghnfgblgaaDoorCalm
import Derived.Test.YtjdahghnfgblgaaDoorTail
import Derived.Laws.Bits64b
namespace Go.Proofs.YtjdahghnfgblgaaDoor
open Go.RowKit Go.Deep
set_option linter.unusedVariables false
set_option linter.unusedSimpArgs false
set_option maxRecDepth 100000
attribute [local go_sem] cell_set_ite Near.cell Near.frozen
attribute [local go_sem ↓] Go.wp_at_zero Go.wp_at_succ
attribute [-go_sem] run_string_add_if

def scNames : List (List UInt8) := [[83, 84, 82, 69, 65, 77], [70, 82, 69, 69], [79, 86, 69, 82], [85, 78, 68, 69, 82], [76, 79, 83, 83], [69, 77, 80, 84, 89], [84, 73, 76, 84], [68, 79, 79, 82], [66, 65, 84, 84, 69, 82, 89], [83, 84, 65, 76, 76], [83, 69, 78, 83, 79, 82], [77, 65, 84, 72]]
def scBru : List Int := [0, 1, 56, 2, 57, 49, 28, 3, 61, 58, 42, 50, 38, 29, 17, 4, 62, 47, 59, 36, 45, 43, 51, 22, 53, 39, 33, 30, 24, 18, 12, 5, 63, 55, 48, 27, 60, 41, 37, 16, 46, 35, 44, 21, 52, 32, 23, 11, 54, 26, 40, 15, 34, 20, 31, 10, 25, 14, 19, 9, 13, 8, 7, 6]
/-- The tables that the display reads. -/
structure ScT (w : World) : Prop where
  tab : ScTab w
  names : Words w 0 mdNames
  words : Words w 1 scNames
  bru : TabAt w 3 .u8 scBru
theorem ScT.stays {w w' : World} (h : ScT w) (hb : Below w.heap.size w w') : ScT w' := ⟨h.tab.stays hb, h.names.below hb, h.words.below hb, h.bru.below hb⟩

theorem sc_tz64 (x k idx : Nat) (w : World) (hx0 : ((x : Int) == 0) = false)
    (key : IntKind.u64.wrap (bits BinOp.and IntKind.u64 (x : Int) (IntKind.u64.wrap (-(x : Int))) * 285870213051353865) / 288230376151711744 = (idx : Int))
    (hi : idx < 64) (hcell : w.cell? ⟨3, idx, none⟩ = some (.int .u8 k)) (hk : k < 64) :
    Calls Tryd.prog 37 #[.int .u64 x] w fun e w' => e = .returned (.int .i64 k) ∧ w = w' := by
  go_enter Tryd.func37, Tryd.ntmps37
  go_wp2_with (simp only [key])
  all_goals go_ret
  all_goals exact ⟨rfl, rfl⟩
theorem sc_tz (w : World) (h : ScT w) : Calls Tryd.prog 31 #[.int .u64 128] w fun e w' => e = .returned (.int .i64 7) ∧ w = w' := by
  have H := Lib.hid (fun w h => sc_tz64 128 7 62 w (by decide) (by decide +kernel) (by omega) h (by omega))
  have HC := Lib.hid (h.bru.at_ 62 7 rfl)
  clear h
  go_enter Tryd.func31, Tryd.ntmps31
  go_wp2_with (go_at_call 37; refine (H.out _ HC.out).mono ?_; rintro e w' ⟨rfl, rfl⟩)
  all_goals go_ret
  all_goals exact ⟨rfl, rfl⟩
theorem sc_which (w : World) : Calls Tryd.prog 30 #[.int .i64 128] w fun e w' => ∃ B d, e = .returned (.slice B 1 d) ∧ 1 ≤ d ∧ Ints w' B 1 [128] ∧ Below w.heap.size w w' := by
  have h := lt_which 128 w
  rw [show whK 128 12 = [128] by decide +kernel] at h
  exact h.mono fun e w' ho => by
    obtain ⟨B, d, he, hd, hi, hb⟩ := ho.new
    exact ⟨B, d, he, hd, hi, hb⟩

set_option maxHeartbeats 4000000 in
theorem sc_alarmed (w : World) (h : ScT w) : Calls Tryd.prog 22 #[.int .i64 128] w fun e w' => e = .returned (.string ⟨#[33, 32, 68, 79, 79, 82, 10]⟩) ∧ Below w.heap.size w w' := by
  have HT := Lib.hid h
  have h1 : ∀ w, (Op.stringOp .add (⟨#[32]⟩ : ByteArray) ⟨#[68, 79, 79, 82]⟩).run Tryd.prog w = .ok (.string ⟨#[32, 68, 79, 79, 82]⟩) w := fun w => run_string_add_sum w _ _ (by decide)
  have h2 : ∀ w, (Op.stringOp .add (⟨#[33]⟩ : ByteArray) ⟨#[32, 68, 79, 79, 82]⟩).run Tryd.prog w = .ok (.string ⟨#[33, 32, 68, 79, 79, 82]⟩) w := fun w => run_string_add_sum w _ _ (by decide)
  have h3 : ∀ w, (Op.stringOp .add (⟨#[33, 32, 68, 79, 79, 82]⟩ : ByteArray) ⟨#[10]⟩).run Tryd.prog w = .ok (.string ⟨#[33, 32, 68, 79, 79, 82, 10]⟩) w := fun w => run_string_add_sum w _ _ (by decide)
  have A : Below w.heap.size w w := Below.refl _ _
  clear h
  go_enter Tryd.func22, Tryd.ntmps22
  go_wp2_with (fail)
  refine (sc_which _).mono ?_
  rintro e w1 ⟨B, d, rfl, hd, hi, hb⟩
  have A1 := Lib.hid (below_call A hb)
  have HT1 := Lib.hid (HT.out.stays hb)
  have hw7 := HT1.out.words.at_ 7 _ rfl
  obtain ⟨b, off, rfl, hlt, hc⟩ := hi.2 (by omega)
  have c0 : w1.cell? ⟨b, off, none⟩ = some (.int .i64 128) := hc 0 (by omega)
  have HZ := Lib.hid (sc_tz w1 HT1.out)
  clear hb hi hc A HT
  go_wp2
  go_loopg [4, 14] 2 (fun gk v i wr => ∃ j : Nat, j ≤ 1 ∧ gk = 2 - j ∧ i = .int .i64 j ∧ v = .string (if j = 0 then ⟨#[33]⟩ else ⟨#[33, 32, 68, 79, 79, 82]⟩) ∧ wr = w1)
  case atStart => exact ⟨0, by omega, rfl, rfl, rfl, rfl⟩
  case round =>
    obtain ⟨j, hj, rfl, rfl, rfl, rfl⟩ := hrel
    rcases (by omega : j = 0 ∨ j = 1) with rfl | rfl
    · rw [if_pos rfl]
      go_wp2_with (go_at_call 31; refine HZ.out.mono ?_; rintro e w' ⟨rfl, rfl⟩)
      go_roundg 1
      case measure => omega
      case rel => exact ⟨1, by omega, rfl, by go_num, rfl, rfl⟩
    · rw [if_neg (by omega)]
      go_wp2
      go_ret
      exact ⟨rfl, A1.out⟩
end Go.Proofs.YtjdahghnfgblgaaDoor
