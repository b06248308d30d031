/- EyeApart holds of every list of lights: two drops are five ticks apart at the least; a drop is seen only while it is shaded for the second tick or later; a stream is twelve shaded ticks. No condition. -/
import Derived.Test.YtkddledajffdbaaLaw22
namespace Go.Proofs.Ytkddledajffdbaa.eyeApart
open Go.ChangeShapes Go.WideShapes Go.ChangeAt Go.RowKit
set_option linter.unusedVariables false
set_option linter.unusedSimpArgs false
set_option maxRecDepth 100000

set_option maxHeartbeats 4000000 in
theorem walk (w : World) (A : Option Addr) (n c : Nat) (xs : List Int) (hi : Ints w A n xs) (hc : n ≤ c) (hr : n * 8 ≤ 140737488351232) (wx : ∀ x ∈ xs, (Lit.int .i64 x).wf = true) :
    Calls Try.prog 6 #[.slice A n c] w fun e w' => e = .returned (.bool true) ∧ Below w.heap.size w w' := by
  have A0 : Below w.heap.size w w := Below.refl _ _
  by_cases hn : 300 < n
  · have t0 : decide (300 < (n : Int)) = true := decide_eq_true (by omega)
    clear hi
    go_enter Try.func6, Try.ntmps6
    go_wp2_with (go_at_call 12; refine (law22_awake w).mono ?_; rintro e w' ⟨rfl, hb⟩)
    go_ret
    exact ⟨rfl, hb⟩
  · have t0 : decide (300 < (n : Int)) = false := decide_eq_false (by omega)
    have HL := Lib.hid (ey_look A n c xs w hi (by omega))
    clear hi wx
    go_enter Try.func6, Try.ntmps6
    go_wp2_with (fail)
    refine HL.out.mono ?_
    rintro e w1 ⟨g, rfl, S, hb⟩
    clear HL A0
    go_wp2
    go_loopg [4, 5, 20] n (fun gk l r i wr => ∃ (k : Nat) (L R : Int), k ≤ n ∧ gk = n - k ∧ i = .int .i64 k ∧ l = .int .i64 L ∧ r = .int .i64 R ∧ -9 ≤ L ∧ L ≤ n ∧ ApIn (gzAt xs k) k L R ∧ w1 = wr)
    case atStart => exact ⟨0, -9, 0, by omega, rfl, rfl, rfl, rfl, by omega, by omega, ap_start, rfl⟩
    case round =>
      obtain ⟨k, L, R, hk, rfl, rfl, rfl, rfl, l0, l1, hap, rfl⟩ := hrel
      by_cases hlt : k < n
      · obtain ⟨hnx, hd, ht⟩ := ap_next (xs.getD k 0) hap (by omega)
        have c0 : w1.cell? ⟨g, k * 4, none⟩ = some (.bool (gzD (gzAt xs k) (xs.getD k 0))) := S.cell k 0 hlt (by omega)
        have c1 : w1.cell? ⟨g, k * 4 + 1, none⟩ = some (.bool (gzS (gzAt xs k) (xs.getD k 0))) := S.cell k 1 hlt (by omega)
        have c2 : w1.cell? ⟨g, k * 4 + 2, none⟩ = some (.bool (gzT (gzAt xs k) (xs.getD k 0))) := S.cell k 2 hlt (by omega)
        rw [ht] at c2
        have r0 := hap.1
        have r1 := hap.2.1
        have HS := Lib.hid S
        have HNX := Lib.hid (show ApIn (gzAt xs (k + 1)) (k + 1) _ _ from hnx)
        clear S hnx ht hap
        generalize gzD (gzAt xs k) (xs.getD k 0) = D at *
        generalize gzS (gzAt xs k) (xs.getD k 0) = SH at *
        cases SH
        · have q1 : decide ((12 : Int) ≤ 0) = false := by decide
          cases D
          · rw [if_neg (by simp)] at c2
            clear hd
            go_wp2
            go_roundg (n - (k + 1))
            case measure => omega
            case rel => exact ⟨k + 1, L, 0, by omega, by omega, by go_num, rfl, rfl, l0, l1, by simpa using HNX.out, rfl⟩
          · exact absurd (hd rfl).2.1 (by simp)
        · rw [if_pos rfl] at c2
          obtain ⟨b, hb12⟩ : ∃ b, decide (12 ≤ R + 1) = b := ⟨_, rfl⟩
          rw [hb12] at c2
          cases D
          · clear hd
            go_wp2
            go_roundg (n - (k + 1))
            case measure => omega
            case rel => exact ⟨k + 1, L, R + 1, by omega, by omega, by go_num, rfl, rfl, l0, l1, by simpa using HNX.out, rfl⟩
          · obtain ⟨d0, _, d2⟩ := hd rfl
            have q1 : decide ((k : Int) - L < 5) = false := decide_eq_false (by omega)
            have q2 : decide (R + 1 < 2) = false := decide_eq_false (by omega)
            clear hd
            go_wp2
            go_roundg (n - (k + 1))
            case measure => omega
            case rel => exact ⟨k + 1, k, R + 1, by omega, by omega, by go_num, rfl, rfl, by omega, by omega, by simpa using HNX.out, rfl⟩
      · obtain rfl : k = n := by omega
        clear S
        go_wp2_with (go_at_call 12; refine (law22_awake _).mono ?_; rintro e w' ⟨rfl, hb'⟩)
        go_ret
        exact ⟨rfl, below_call hb hb'⟩

set_option maxRecDepth 100000 in
theorem lifted (os : Os) (started : os.Started) (H : Type) (enc : TypeId × Value → H) :
    ReturnsInHanded {} Try.checked os 6 .any (Rows.eyeApartSpec.pre6 enc Try.prog Try.f6 Rows.eyeApartRow.domain false) (Rows.eyeApartSpec.post enc Try.prog Try.f6 false true false false) := by
  refine law_lift started (by kernel_rfl) Try.func6 rfl rfl ?_ (by kernel_rfl)
    (ChangeSpec.witness6 (enc := enc) (C := Try.checked) false ⟨#[], #[.slice none 0 0], []⟩ 8 (by kernel_rfl) (by kernel_rfl) (by kernel_rfl) (by kernel_rfl)) ?_
  · intro ds hl
    match ds, hl with
    | [_], _ => exact ⟨rfl, rfl, rfl⟩
  · intro W base args ds p hval hA hlt hwt
    rw [Try.params6] at hA hval hwt
    obtain ⟨v0, vs0, d0, ds0, p0, q0, hargs, rfl, rfl, h0, r0⟩ := trodAll_cons hA
    obtain ⟨rfl, rfl, rfl⟩ := trodAll_nil r0
    obtain rfl : args = #[v0] := by cases args; simp_all
    have wt0 : ∀ n ∈ d0.weights Try.prog 28, n ≤ reachBytes := fun n hn => by
      have := List.all_eq_true.1 hwt n (DataW.weights_mem_each (j := 0) (t := 28) (d := d0) rfl rfl n hn)
      simpa using this
    have lt0 : ∀ x ∈ p0, x.block < W.heap.size := fun x hx => hlt x (by simp [hx])
    obtain ⟨A0, n0, c0, xs0, rfl, hi0, hc0, hr0, w0⟩ := open_ints_arg Try.underlying28 Try.underlying3 (by kernel_rfl) (by kernel_rfl) (hval 0 28 v0 rfl rfl) h0 lt0 wt0
    exact walk W A0 n0 c0 xs0 hi0 hc0 hr0 w0

theorem over : Rows.eyeApartRow.holds Try.pinned (OpenSpec.ofChange Rows.eyeApartSpec) :=
  OpenClaim.holds_of_wide 6 Try.f6 rfl rfl rfl rfl rfl rfl rfl ⟨rfl, rfl, rfl, rfl, rfl⟩ rfl rfl rfl rfl rfl (by kernel_rfl) Try.func6 (by kernel_rfl)
    (of_decide_eq_true (by kernel_rfl)) (by unfold Func.isWrapper; first | (rw [if_pos (by decide +kernel)]; kernel_rfl) | (rw [if_neg (by decide +kernel)]; exact ⟨rfl, rfl⟩))
    (fun os started H enc _ => lifted os started H enc)

theorem proved : Rows.EyeApartSaid := over
#print axioms proved
end Go.Proofs.Ytkddledajffdbaa.eyeApart
