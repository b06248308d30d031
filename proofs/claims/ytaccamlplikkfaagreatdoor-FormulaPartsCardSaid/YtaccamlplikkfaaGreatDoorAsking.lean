/- What a word asks; the part of a word: contracts of asking and term. -/
import Derived.Test.YtaccamlplikkfaaGreatDoorTermC
import Derived.Deep.LoopGhost
namespace Go.Proofs.YtaccamlplikkfaaGreatDoor
open Go.RowKit Go.Deep
set_option linter.unusedVariables false
set_option linter.unusedSimpArgs false
set_option maxRecDepth 100000
attribute [local go_sem] cell_set_ite Near.cell Near.frozen
attribute [-go_sem] run_string_add_if

set_option maxHeartbeats 8000000 in
theorem fo_asking (s : ByteArray) (w : World) (g : Gl w) : Calls Tryz.prog 37 #[.string s] w fun e w' => e = .returned (.int .i64 (askF s.data.toList)) ∧ w = w' := by
  have HA := g.ask
  have c0 : w.cell? ⟨2, 0, none⟩ = some (.string ⟨#[109, 111, 100, 101]⟩) := HA.at_ 0 [109, 111, 100, 101] rfl
  have c1 : w.cell? ⟨2, 1, none⟩ = some (.string ⟨#[108, 97, 116, 99, 104]⟩) := HA.at_ 1 [108, 97, 116, 99, 104] rfl
  have c2 : w.cell? ⟨2, 2, none⟩ = some (.string ⟨#[110, 111, 116, 101, 115]⟩) := HA.at_ 2 [110, 111, 116, 101, 115] rfl
  have c3 : w.cell? ⟨2, 3, none⟩ = some (.string ⟨#[108, 101, 118, 101, 108]⟩) := HA.at_ 3 [108, 101, 118, 101, 108] rfl
  have c4 : w.cell? ⟨2, 4, none⟩ = some (.string ⟨#[98, 117, 122, 122, 101, 114]⟩) := HA.at_ 4 [98, 117, 122, 122, 101, 114] rfl
  have c5 : w.cell? ⟨2, 5, none⟩ = some (.string ⟨#[111, 112, 101, 110]⟩) := HA.at_ 5 [111, 112, 101, 110] rfl
  have c6 : w.cell? ⟨2, 6, none⟩ = some (.string ⟨#[112, 111, 115]⟩) := HA.at_ 6 [112, 111, 115] rfl
  have c7 : w.cell? ⟨2, 7, none⟩ = some (.string ⟨#[118, 111, 108, 117, 109, 101]⟩) := HA.at_ 7 [118, 111, 108, 117, 109, 101] rfl
  have c8 : w.cell? ⟨2, 8, none⟩ = some (.string ⟨#[100, 114, 111, 112]⟩) := HA.at_ 8 [100, 114, 111, 112] rfl
  have c9 : w.cell? ⟨2, 9, none⟩ = some (.string ⟨#[116, 105, 99, 107]⟩) := HA.at_ 9 [116, 105, 99, 107] rfl
  have sl : s.toList = s.data.toList := ByteArray.toList_eq s
  obtain ⟨l, hl⟩ : ∃ l, s.data.toList = l := ⟨_, rfl⟩
  rw [hl] at sl ⊢
  have SL := Lib.hid sl
  obtain ⟨r, hr⟩ : ∃ r, askF l = r := ⟨_, rfl⟩
  rw [hr]
  have H0 := Lib.hid (show askG (askL.drop 0) (((0 : Nat) : Int) + 1) l = r from hr)
  clear hl sl hr HA g
  go_enter Tryz.func37, Tryz.ntmps37
  go_wp2_with (fail)
  go_loopg [3, 4, 6] 10 (fun gk x3 x4 i wr => ∃ k : Nat, k ≤ 10 ∧ gk = 10 - k ∧ i = .int .i64 k ∧ askG (askL.drop k) ((k : Int) + 1) l = r ∧ wr = w)
  case atStart => exact ⟨0, by omega, rfl, rfl, H0.out, rfl⟩
  case round =>
    clear H0
    obtain ⟨k, hk, rfl, rfl, hi, rfl⟩ := hrel
    have HI := Lib.hid hi
    clear hi
    rcases (by omega : k = 0 ∨ k = 1 ∨ k = 2 ∨ k = 3 ∨ k = 4 ∨ k = 5 ∨ k = 6 ∨ k = 7 ∨ k = 8 ∨ k = 9 ∨ k = 10) with rfl | rfl | rfl | rfl | rfl | rfl | rfl | rfl | rfl | rfl | rfl
    · rw [show ((0 : Nat) : Int) = 0 from rfl]
      have HJ := Lib.hid ((askG_step [109, 111, 100, 101] (askL.drop 1) 1 l).symm.trans HI.out)
      have ix : ∀ w : World, (Instr.index 69 (.agg #[.string ⟨#[109, 111, 100, 101]⟩, .string ⟨#[108, 97, 116, 99, 104]⟩, .string ⟨#[110, 111, 116, 101, 115]⟩, .string ⟨#[108, 101, 118, 101, 108]⟩, .string ⟨#[98, 117, 122, 122, 101, 114]⟩, .string ⟨#[111, 112, 101, 110]⟩, .string ⟨#[112, 111, 115]⟩, .string ⟨#[118, 111, 108, 117, 109, 101]⟩, .string ⟨#[100, 114, 111, 112]⟩, .string ⟨#[116, 105, 99, 107]⟩]) (.int .i64 0)).run Tryz.prog w = .ok (.string ⟨#[109, 111, 100, 101]⟩) w := fun w => by kernel_rfl
      cases hq : (l == [109, 111, 100, 101])
      · have tq : (s.toList == [109, 111, 100, 101]) = false := by rw [SL.out]; exact hq
        rw [hq, if_neg (by simp)] at HJ
        clear hq HI
        go_wp2_with (fail)
        go_roundg (10 - 1)
        case measure => omega
        case rel => exact ⟨1, by omega, rfl, rfl, HJ.out, rfl⟩
      · have tq : (s.toList == [109, 111, 100, 101]) = true := by rw [SL.out]; exact hq
        rw [hq, if_pos rfl] at HJ
        obtain rfl := HJ.out
        clear hq HI HJ
        go_wp2_with (fail)
        go_ret
        exact ⟨rfl, rfl⟩
    · rw [show ((1 : Nat) : Int) = 1 from rfl]
      have HJ := Lib.hid ((askG_step [108, 97, 116, 99, 104] (askL.drop 2) 2 l).symm.trans HI.out)
      have ix : ∀ w : World, (Instr.index 69 (.agg #[.string ⟨#[109, 111, 100, 101]⟩, .string ⟨#[108, 97, 116, 99, 104]⟩, .string ⟨#[110, 111, 116, 101, 115]⟩, .string ⟨#[108, 101, 118, 101, 108]⟩, .string ⟨#[98, 117, 122, 122, 101, 114]⟩, .string ⟨#[111, 112, 101, 110]⟩, .string ⟨#[112, 111, 115]⟩, .string ⟨#[118, 111, 108, 117, 109, 101]⟩, .string ⟨#[100, 114, 111, 112]⟩, .string ⟨#[116, 105, 99, 107]⟩]) (.int .i64 1)).run Tryz.prog w = .ok (.string ⟨#[108, 97, 116, 99, 104]⟩) w := fun w => by kernel_rfl
      cases hq : (l == [108, 97, 116, 99, 104])
      · have tq : (s.toList == [108, 97, 116, 99, 104]) = false := by rw [SL.out]; exact hq
        rw [hq, if_neg (by simp)] at HJ
        clear hq HI
        go_wp2_with (fail)
        go_roundg (10 - 2)
        case measure => omega
        case rel => exact ⟨2, by omega, rfl, rfl, HJ.out, rfl⟩
      · have tq : (s.toList == [108, 97, 116, 99, 104]) = true := by rw [SL.out]; exact hq
        rw [hq, if_pos rfl] at HJ
        obtain rfl := HJ.out
        clear hq HI HJ
        go_wp2_with (fail)
        go_ret
        exact ⟨rfl, rfl⟩
    · rw [show ((2 : Nat) : Int) = 2 from rfl]
      have HJ := Lib.hid ((askG_step [110, 111, 116, 101, 115] (askL.drop 3) 3 l).symm.trans HI.out)
      have ix : ∀ w : World, (Instr.index 69 (.agg #[.string ⟨#[109, 111, 100, 101]⟩, .string ⟨#[108, 97, 116, 99, 104]⟩, .string ⟨#[110, 111, 116, 101, 115]⟩, .string ⟨#[108, 101, 118, 101, 108]⟩, .string ⟨#[98, 117, 122, 122, 101, 114]⟩, .string ⟨#[111, 112, 101, 110]⟩, .string ⟨#[112, 111, 115]⟩, .string ⟨#[118, 111, 108, 117, 109, 101]⟩, .string ⟨#[100, 114, 111, 112]⟩, .string ⟨#[116, 105, 99, 107]⟩]) (.int .i64 2)).run Tryz.prog w = .ok (.string ⟨#[110, 111, 116, 101, 115]⟩) w := fun w => by kernel_rfl
      cases hq : (l == [110, 111, 116, 101, 115])
      · have tq : (s.toList == [110, 111, 116, 101, 115]) = false := by rw [SL.out]; exact hq
        rw [hq, if_neg (by simp)] at HJ
        clear hq HI
        go_wp2_with (fail)
        go_roundg (10 - 3)
        case measure => omega
        case rel => exact ⟨3, by omega, rfl, rfl, HJ.out, rfl⟩
      · have tq : (s.toList == [110, 111, 116, 101, 115]) = true := by rw [SL.out]; exact hq
        rw [hq, if_pos rfl] at HJ
        obtain rfl := HJ.out
        clear hq HI HJ
        go_wp2_with (fail)
        go_ret
        exact ⟨rfl, rfl⟩
    · rw [show ((3 : Nat) : Int) = 3 from rfl]
      have HJ := Lib.hid ((askG_step [108, 101, 118, 101, 108] (askL.drop 4) 4 l).symm.trans HI.out)
      have ix : ∀ w : World, (Instr.index 69 (.agg #[.string ⟨#[109, 111, 100, 101]⟩, .string ⟨#[108, 97, 116, 99, 104]⟩, .string ⟨#[110, 111, 116, 101, 115]⟩, .string ⟨#[108, 101, 118, 101, 108]⟩, .string ⟨#[98, 117, 122, 122, 101, 114]⟩, .string ⟨#[111, 112, 101, 110]⟩, .string ⟨#[112, 111, 115]⟩, .string ⟨#[118, 111, 108, 117, 109, 101]⟩, .string ⟨#[100, 114, 111, 112]⟩, .string ⟨#[116, 105, 99, 107]⟩]) (.int .i64 3)).run Tryz.prog w = .ok (.string ⟨#[108, 101, 118, 101, 108]⟩) w := fun w => by kernel_rfl
      cases hq : (l == [108, 101, 118, 101, 108])
      · have tq : (s.toList == [108, 101, 118, 101, 108]) = false := by rw [SL.out]; exact hq
        rw [hq, if_neg (by simp)] at HJ
        clear hq HI
        go_wp2_with (fail)
        go_roundg (10 - 4)
        case measure => omega
        case rel => exact ⟨4, by omega, rfl, rfl, HJ.out, rfl⟩
      · have tq : (s.toList == [108, 101, 118, 101, 108]) = true := by rw [SL.out]; exact hq
        rw [hq, if_pos rfl] at HJ
        obtain rfl := HJ.out
        clear hq HI HJ
        go_wp2_with (fail)
        go_ret
        exact ⟨rfl, rfl⟩
    · rw [show ((4 : Nat) : Int) = 4 from rfl]
      have HJ := Lib.hid ((askG_step [98, 117, 122, 122, 101, 114] (askL.drop 5) 5 l).symm.trans HI.out)
      have ix : ∀ w : World, (Instr.index 69 (.agg #[.string ⟨#[109, 111, 100, 101]⟩, .string ⟨#[108, 97, 116, 99, 104]⟩, .string ⟨#[110, 111, 116, 101, 115]⟩, .string ⟨#[108, 101, 118, 101, 108]⟩, .string ⟨#[98, 117, 122, 122, 101, 114]⟩, .string ⟨#[111, 112, 101, 110]⟩, .string ⟨#[112, 111, 115]⟩, .string ⟨#[118, 111, 108, 117, 109, 101]⟩, .string ⟨#[100, 114, 111, 112]⟩, .string ⟨#[116, 105, 99, 107]⟩]) (.int .i64 4)).run Tryz.prog w = .ok (.string ⟨#[98, 117, 122, 122, 101, 114]⟩) w := fun w => by kernel_rfl
      cases hq : (l == [98, 117, 122, 122, 101, 114])
      · have tq : (s.toList == [98, 117, 122, 122, 101, 114]) = false := by rw [SL.out]; exact hq
        rw [hq, if_neg (by simp)] at HJ
        clear hq HI
        go_wp2_with (fail)
        go_roundg (10 - 5)
        case measure => omega
        case rel => exact ⟨5, by omega, rfl, rfl, HJ.out, rfl⟩
      · have tq : (s.toList == [98, 117, 122, 122, 101, 114]) = true := by rw [SL.out]; exact hq
        rw [hq, if_pos rfl] at HJ
        obtain rfl := HJ.out
        clear hq HI HJ
        go_wp2_with (fail)
        go_ret
        exact ⟨rfl, rfl⟩
    · rw [show ((5 : Nat) : Int) = 5 from rfl]
      have HJ := Lib.hid ((askG_step [111, 112, 101, 110] (askL.drop 6) 6 l).symm.trans HI.out)
      have ix : ∀ w : World, (Instr.index 69 (.agg #[.string ⟨#[109, 111, 100, 101]⟩, .string ⟨#[108, 97, 116, 99, 104]⟩, .string ⟨#[110, 111, 116, 101, 115]⟩, .string ⟨#[108, 101, 118, 101, 108]⟩, .string ⟨#[98, 117, 122, 122, 101, 114]⟩, .string ⟨#[111, 112, 101, 110]⟩, .string ⟨#[112, 111, 115]⟩, .string ⟨#[118, 111, 108, 117, 109, 101]⟩, .string ⟨#[100, 114, 111, 112]⟩, .string ⟨#[116, 105, 99, 107]⟩]) (.int .i64 5)).run Tryz.prog w = .ok (.string ⟨#[111, 112, 101, 110]⟩) w := fun w => by kernel_rfl
      cases hq : (l == [111, 112, 101, 110])
      · have tq : (s.toList == [111, 112, 101, 110]) = false := by rw [SL.out]; exact hq
        rw [hq, if_neg (by simp)] at HJ
        clear hq HI
        go_wp2_with (fail)
        go_roundg (10 - 6)
        case measure => omega
        case rel => exact ⟨6, by omega, rfl, rfl, HJ.out, rfl⟩
      · have tq : (s.toList == [111, 112, 101, 110]) = true := by rw [SL.out]; exact hq
        rw [hq, if_pos rfl] at HJ
        obtain rfl := HJ.out
        clear hq HI HJ
        go_wp2_with (fail)
        go_ret
        exact ⟨rfl, rfl⟩
    · rw [show ((6 : Nat) : Int) = 6 from rfl]
      have HJ := Lib.hid ((askG_step [112, 111, 115] (askL.drop 7) 7 l).symm.trans HI.out)
      have ix : ∀ w : World, (Instr.index 69 (.agg #[.string ⟨#[109, 111, 100, 101]⟩, .string ⟨#[108, 97, 116, 99, 104]⟩, .string ⟨#[110, 111, 116, 101, 115]⟩, .string ⟨#[108, 101, 118, 101, 108]⟩, .string ⟨#[98, 117, 122, 122, 101, 114]⟩, .string ⟨#[111, 112, 101, 110]⟩, .string ⟨#[112, 111, 115]⟩, .string ⟨#[118, 111, 108, 117, 109, 101]⟩, .string ⟨#[100, 114, 111, 112]⟩, .string ⟨#[116, 105, 99, 107]⟩]) (.int .i64 6)).run Tryz.prog w = .ok (.string ⟨#[112, 111, 115]⟩) w := fun w => by kernel_rfl
      cases hq : (l == [112, 111, 115])
      · have tq : (s.toList == [112, 111, 115]) = false := by rw [SL.out]; exact hq
        rw [hq, if_neg (by simp)] at HJ
        clear hq HI
        go_wp2_with (fail)
        go_roundg (10 - 7)
        case measure => omega
        case rel => exact ⟨7, by omega, rfl, rfl, HJ.out, rfl⟩
      · have tq : (s.toList == [112, 111, 115]) = true := by rw [SL.out]; exact hq
        rw [hq, if_pos rfl] at HJ
        obtain rfl := HJ.out
        clear hq HI HJ
        go_wp2_with (fail)
        go_ret
        exact ⟨rfl, rfl⟩
    · rw [show ((7 : Nat) : Int) = 7 from rfl]
      have HJ := Lib.hid ((askG_step [118, 111, 108, 117, 109, 101] (askL.drop 8) 8 l).symm.trans HI.out)
      have ix : ∀ w : World, (Instr.index 69 (.agg #[.string ⟨#[109, 111, 100, 101]⟩, .string ⟨#[108, 97, 116, 99, 104]⟩, .string ⟨#[110, 111, 116, 101, 115]⟩, .string ⟨#[108, 101, 118, 101, 108]⟩, .string ⟨#[98, 117, 122, 122, 101, 114]⟩, .string ⟨#[111, 112, 101, 110]⟩, .string ⟨#[112, 111, 115]⟩, .string ⟨#[118, 111, 108, 117, 109, 101]⟩, .string ⟨#[100, 114, 111, 112]⟩, .string ⟨#[116, 105, 99, 107]⟩]) (.int .i64 7)).run Tryz.prog w = .ok (.string ⟨#[118, 111, 108, 117, 109, 101]⟩) w := fun w => by kernel_rfl
      cases hq : (l == [118, 111, 108, 117, 109, 101])
      · have tq : (s.toList == [118, 111, 108, 117, 109, 101]) = false := by rw [SL.out]; exact hq
        rw [hq, if_neg (by simp)] at HJ
        clear hq HI
        go_wp2_with (fail)
        go_roundg (10 - 8)
        case measure => omega
        case rel => exact ⟨8, by omega, rfl, rfl, HJ.out, rfl⟩
      · have tq : (s.toList == [118, 111, 108, 117, 109, 101]) = true := by rw [SL.out]; exact hq
        rw [hq, if_pos rfl] at HJ
        obtain rfl := HJ.out
        clear hq HI HJ
        go_wp2_with (fail)
        go_ret
        exact ⟨rfl, rfl⟩
    · rw [show ((8 : Nat) : Int) = 8 from rfl]
      have HJ := Lib.hid ((askG_step [100, 114, 111, 112] (askL.drop 9) 9 l).symm.trans HI.out)
      have ix : ∀ w : World, (Instr.index 69 (.agg #[.string ⟨#[109, 111, 100, 101]⟩, .string ⟨#[108, 97, 116, 99, 104]⟩, .string ⟨#[110, 111, 116, 101, 115]⟩, .string ⟨#[108, 101, 118, 101, 108]⟩, .string ⟨#[98, 117, 122, 122, 101, 114]⟩, .string ⟨#[111, 112, 101, 110]⟩, .string ⟨#[112, 111, 115]⟩, .string ⟨#[118, 111, 108, 117, 109, 101]⟩, .string ⟨#[100, 114, 111, 112]⟩, .string ⟨#[116, 105, 99, 107]⟩]) (.int .i64 8)).run Tryz.prog w = .ok (.string ⟨#[100, 114, 111, 112]⟩) w := fun w => by kernel_rfl
      cases hq : (l == [100, 114, 111, 112])
      · have tq : (s.toList == [100, 114, 111, 112]) = false := by rw [SL.out]; exact hq
        rw [hq, if_neg (by simp)] at HJ
        clear hq HI
        go_wp2_with (fail)
        go_roundg (10 - 9)
        case measure => omega
        case rel => exact ⟨9, by omega, rfl, rfl, HJ.out, rfl⟩
      · have tq : (s.toList == [100, 114, 111, 112]) = true := by rw [SL.out]; exact hq
        rw [hq, if_pos rfl] at HJ
        obtain rfl := HJ.out
        clear hq HI HJ
        go_wp2_with (fail)
        go_ret
        exact ⟨rfl, rfl⟩
    · rw [show ((9 : Nat) : Int) = 9 from rfl]
      have HJ := Lib.hid ((askG_step [116, 105, 99, 107] (askL.drop 10) 10 l).symm.trans HI.out)
      have ix : ∀ w : World, (Instr.index 69 (.agg #[.string ⟨#[109, 111, 100, 101]⟩, .string ⟨#[108, 97, 116, 99, 104]⟩, .string ⟨#[110, 111, 116, 101, 115]⟩, .string ⟨#[108, 101, 118, 101, 108]⟩, .string ⟨#[98, 117, 122, 122, 101, 114]⟩, .string ⟨#[111, 112, 101, 110]⟩, .string ⟨#[112, 111, 115]⟩, .string ⟨#[118, 111, 108, 117, 109, 101]⟩, .string ⟨#[100, 114, 111, 112]⟩, .string ⟨#[116, 105, 99, 107]⟩]) (.int .i64 9)).run Tryz.prog w = .ok (.string ⟨#[116, 105, 99, 107]⟩) w := fun w => by kernel_rfl
      cases hq : (l == [116, 105, 99, 107])
      · have tq : (s.toList == [116, 105, 99, 107]) = false := by rw [SL.out]; exact hq
        rw [hq, if_neg (by simp)] at HJ
        clear hq HI
        go_wp2_with (fail)
        go_roundg (10 - 10)
        case measure => omega
        case rel => exact ⟨10, by omega, rfl, rfl, HJ.out, rfl⟩
      · have tq : (s.toList == [116, 105, 99, 107]) = true := by rw [SL.out]; exact hq
        rw [hq, if_pos rfl] at HJ
        obtain rfl := HJ.out
        clear hq HI HJ
        go_wp2_with (fail)
        go_ret
        exact ⟨rfl, rfl⟩
    · rw [show ((10 : Nat) : Int) = 10 from rfl]
      obtain rfl : 0 = r := HI.out
      clear HI
      go_wp2_with (fail)
      go_ret
      exact ⟨rfl, rfl⟩
end Go.Proofs.YtaccamlplikkfaaGreatDoor
