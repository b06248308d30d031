/- A reader of bytes: contract of number. -/
import Derived.Test.YteeiebopfjlffaaStp
namespace Go.Proofs.Yteeiebopfjlffaa
open Go.RowKit Ieee
set_option linter.unusedVariables false
set_option linter.unusedSimpArgs false
set_option maxRecDepth 100000
attribute [local go_sem] cell_set_ite

/-- The reader's two cells. -/
def rdC (l : List UInt8) (b : Bool) : Array Value := #[.string ⟨l.toArray⟩, .bool b]
theorem tak_v (l : List UInt8) (W : Nat) (w1 : 1 ≤ W) (w7 : W ≤ 7) : takV (ByteArray.mk l.toArray).data.toList 0 (W : Int) = (rdV l W : Nat) ∧ takB (ByteArray.mk l.toArray).size 0 (W : Int) = !rdW l W := by
  have hs : (ByteArray.mk l.toArray).size = l.length := List.size_toArray
  have hB : takB l.length 0 (W : Int) = !rdW l W := by
    unfold takB rdW
    by_cases h : l.length < W
    · rw [decide_eq_true h, decide_eq_false (by omega)]; rfl
    · rw [decide_eq_false h, decide_eq_true (by omega)]; rfl
  refine ⟨?_, by rw [hs, hB]⟩
  unfold takV rdV
  rw [show (ByteArray.mk l.toArray).data.toList = l from rfl, hB]
  by_cases h : W ≤ l.length
  · have e : rdW l W = false := decide_eq_false (by omega)
    rw [e, if_pos h, if_pos (by decide)]; simp
  · have e : rdW l W = true := decide_eq_true (by omega)
    rw [e, if_neg h, if_neg (by decide)]; rfl
theorem drop_bytes (l : List UInt8) (W : Nat) : (ByteArray.mk l.toArray).extract W l.length = ⟨(l.drop W).toArray⟩ := by
  apply ByteArray.ext
  rw [ByteArray.data_extract]
  simp
  rw [List.take_of_length_le (by rw [List.length_drop]; omega)]
theorem gb_set (w : World) (g i : Nat) (v : Value) : w.grownBy (w.setCell ⟨g, i, none⟩ v) (some g) :=
  ⟨rfl, rfl, rfl, by simp [World.setCell], fun k _ hk => Below.heap_setCell _ _ _ _ (fun e => hk (by simp [e]))⟩
theorem gb_refl (w : World) (r : Option Nat) : w.grownBy w r := ⟨rfl, rfl, rfl, Nat.le_refl _, fun _ _ _ => rfl⟩
theorem rd_number (g W : Nat) (l : List UInt8) (b : Bool) (w1 : 1 ≤ W) (w7 : W ≤ 7) (hl : l.length ≤ 100000) (w : World) (hB : Box w g (rdC l b)) :
    Calls Try.prog 31 #[.pointer (some ⟨g, 0, none⟩), .int .i64 W] w fun e w' => e = .returned (.int .i64 (rdV l W : Nat)) ∧ Box w' g (rdC (rdR l W) (b || rdW l W)) ∧ w.grownBy w' (some g) := by
  have hs : (ByteArray.mk l.toArray).size = l.length := List.size_toArray
  obtain ⟨e1, e2⟩ := tak_v l W w1 w7
  have KT := Lib.hid fun w => code_take ⟨l.toArray⟩ 0 W (by rw [hs]; omega) (by omega) w
  rw [e1, e2] at KT
  have c0 : w.cell? ⟨g, 0, none⟩ = some (.string ⟨l.toArray⟩) := hB.2.1 0
  have c1 : w.cell? ⟨g, 1, none⟩ = some (.bool b) := hB.2.1 1
  have f0 := hB.2.2 0
  have f1 := hB.2.2 1
  have HB := Lib.hid hB
  clear e1 e2 hB
  cases hw : rdW l W with
  | true =>
    rw [hw] at KT
    have hR : rdR l W = l := by unfold rdR; rw [if_neg (by have := of_decide_eq_true hw; omega)]
    have hV : rdV l W = 0 := by unfold rdV; rw [if_neg (by have := of_decide_eq_true hw; omega)]
    rw [hR, hV] at *
    have HX := Lib.hid (HB.out.set (i := 1) (by simp [rdC]) (.bool true))
    clear hR hV
    go_enter Try.func31, Try.ntmps31
    go_wp2_with (go_at_call 43; refine (KT.out _).mono ?_; rintro e w' ⟨rfl, rfl⟩)
    all_goals go_ret
    all_goals exact ⟨ret_i (by omega), by rw [Bool.or_true]; exact HX.out, gb_set _ _ _ _⟩
  | false =>
    rw [hw] at KT
    have hle : W ≤ l.length := by have := of_decide_eq_false hw; omega
    have hR : rdR l W = l.drop W := by unfold rdR; rw [if_pos hle]
    have HE := Lib.hid (drop_bytes l W)
    have HX := Lib.hid fun v => HB.out.set (i := 0) (by simp [rdC]) v
    rw [hR]
    clear hR
    go_enter Try.func31, Try.ntmps31
    go_wp2_with (go_at_call 43; refine (KT.out _).mono ?_; rintro e w' ⟨rfl, rfl⟩)
    all_goals trace_state
    all_goals go_ret
    all_goals exact ⟨rfl, by rw [Bool.or_false, HE.out]; exact HX.out _, gb_set _ _ _ _⟩
end Go.Proofs.Yteeiebopfjlffaa
