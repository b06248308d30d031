/- FlashOther holds of every two slots and every list of deeds: the slot that is not written stays as it was. No condition. -/
import Derived.Test.YtidmoacjgbjlnaaFlashOther
namespace Go.Proofs.Ytidmoacjgbjlnaa.flashOther
open Go.ChangeShapes Go.WideShapes Go.ChangeAt Go.RowKit
set_option linter.unusedVariables false
set_option linter.unusedSimpArgs false
set_option maxRecDepth 100000

theorem walk (W : World) (u0 : ByteArray) (s0 : u0.size ≤ maxLen) (u1 : ByteArray) (s1 : u1.size ≤ maxLen) (A0 : Option Addr) (n c : Nat) (rs : List (List Value)) (hi : Rows [.int .i64, .int .i64, .string] W A0 n rs) (hc : n ≤ c) (hr : n * 32 ≤ 140737488351232) :
    Calls Try.prog 11 #[.agg #[.string u0, .string u1], .slice A0 n c] W fun e W' => e = .returned (.bool true) ∧ Below W.heap.size W W' := by
  have A : Below W.heap.size W W := Below.refl _ _
  by_cases h1 : 60 < n
  · have t0 : decide (60 < (n : Int)) = true := decide_eq_true (by omega)
    clear hi
    go_enter Try.func11, Try.ntmps11
    go_wp2_with (fail)
    refine (law15_awake _).mono ?_
    rintro e w1 ⟨rfl, hb⟩
    replace A : Below W.heap.size W w1 := by (refine below_call ?_ hb; (repeat (first | (with_reducible exact Below.refl _ _) | (with_reducible assumption) | (with_reducible refine Near.up _ ?_) | (with_reducible refine Below.drew ?_) | (with_reducible refine below_alloc_on ?_ _) | (with_reducible refine below_set_on ?_ (by first | (simp; done) | (simp; omega) | omega) _))))
    clear hb
    have z_w1 : W.heap.size ≤ w1.heap.size := A.size
    go_wp2
    all_goals go_ret
    all_goals exact ⟨rfl, A⟩
  · have t0 : decide (60 < (n : Int)) = false := decide_eq_false (by omega)
    by_cases h2 : 64 < u0.size
    · have t1 : decide (64 < (u0.size : Int)) = true := decide_eq_true (by omega)
      clear hi
      go_enter Try.func11, Try.ntmps11
      go_wp2_with (fail)
      refine (law15_awake _).mono ?_
      rintro e w1 ⟨rfl, hb⟩
      replace A : Below W.heap.size W w1 := by (refine below_call ?_ hb; (repeat (first | (with_reducible exact Below.refl _ _) | (with_reducible assumption) | (with_reducible refine Near.up _ ?_) | (with_reducible refine Below.drew ?_) | (with_reducible refine below_alloc_on ?_ _) | (with_reducible refine below_set_on ?_ (by first | (simp; done) | (simp; omega) | omega) _))))
      clear hb
      have z_w1 : W.heap.size ≤ w1.heap.size := A.size
      go_wp2
      all_goals go_ret
      all_goals exact ⟨rfl, A⟩
    · have t1 : decide (64 < (u0.size : Int)) = false := decide_eq_false (by omega)
      by_cases h3 : 64 < u1.size
      · have t2 : decide (64 < (u1.size : Int)) = true := decide_eq_true (by omega)
        clear hi
        go_enter Try.func11, Try.ntmps11
        go_wp2_with (fail)
        refine (law15_awake _).mono ?_
        rintro e w1 ⟨rfl, hb⟩
        replace A : Below W.heap.size W w1 := by (refine below_call ?_ hb; (repeat (first | (with_reducible exact Below.refl _ _) | (with_reducible assumption) | (with_reducible refine Near.up _ ?_) | (with_reducible refine Below.drew ?_) | (with_reducible refine below_alloc_on ?_ _) | (with_reducible refine below_set_on ?_ (by first | (simp; done) | (simp; omega) | omega) _))))
        clear hb
        have z_w1 : W.heap.size ≤ w1.heap.size := A.size
        go_wp2
        all_goals go_ret
        all_goals exact ⟨rfl, A⟩
      · obtain ⟨R, H, K, hd⟩ := fl_deeds_of hi
        exact some_ W u0 u1 A0 n c R H K hd hc (by omega) (by omega) (by omega)

set_option maxRecDepth 100000 in
theorem lifted (os : Os) (started : os.Started) (H : Type) (enc : TypeId × Value → H) :
    ReturnsInHanded {} Try.checked os 11 .any (Rows.flashOtherSpec.pre6 enc Try.prog Try.f11 Rows.flashOtherRow.domain false) (Rows.flashOtherSpec.post enc Try.prog Try.f11 false true false false) := by
  refine law_lift started (by kernel_rfl) Try.func11 rfl rfl ?_ (by kernel_rfl)
    (ChangeSpec.witness6 (enc := enc) (C := Try.checked) false ⟨#[], #[.agg #[.string ⟨#[]⟩, .string ⟨#[]⟩], .slice none 0 0], []⟩ 8 (by kernel_rfl) (by kernel_rfl) (by kernel_rfl) (by kernel_rfl)) ?_
  · intro ds hl
    match ds, hl with
    | [_, _], _ => exact ⟨rfl, rfl, rfl⟩
  · intro W base args ds p hval hA hlt hwt
    rw [Try.params11] at hA hval hwt
    obtain ⟨v0, vs0, d0, ds0, p0, q0, hargs, rfl, rfl, h0, r0⟩ := trodAll_cons hA
    obtain ⟨v1, vs1, d1, ds1, p1, q1, rfl, rfl, rfl, h1, r1⟩ := trodAll_cons r0
    obtain ⟨rfl, rfl, rfl⟩ := trodAll_nil r1
    obtain rfl : args = #[v0, v1] := by cases args; simp_all
    obtain ⟨cs0, rfl, l0, k0⟩ := open_leaves 5 [.string, .string] (by kernel_rfl) (by kernel_rfl) (hval 0 51 v0 rfl rfl) h0
    match cs0, l0, k0 with
    | [y0_0, y0_1], _, k0 =>
    obtain ⟨x0_0, e0_0, w0_0⟩ : leafIs (.string) y0_0 := k0 0 _ rfl
    subst e0_0
    obtain ⟨x0_1, e0_1, w0_1⟩ : leafIs (.string) y0_1 := k0 1 _ rfl
    subst e0_1
    have wt1 : ∀ n ∈ d1.weights Try.prog 64, n ≤ reachBytes := fun n hn => by
      have := List.all_eq_true.1 hwt n (DataW.weights_mem_each (j := 1) (t := 64) (d := d1) rfl rfl n hn)
      simpa using this
    have lt1 : ∀ x ∈ p1, x.block < W.heap.size := fun x hx => hlt x (by simp [hx])
    obtain ⟨A1, n1, c1, xs1, rfl, hi1, hc1, hr1⟩ := open_rows_arg 5 [.int .i64, .int .i64, .string] Try.underlying64 (by kernel_rfl) (by kernel_rfl) (by decide) (by kernel_rfl) (hval 1 64 v1 rfl rfl) h1 lt1 wt1
    exact walk W x0_0 w0_0 x0_1 w0_1 A1 n1 c1 xs1 hi1 hc1 hr1

theorem over : Rows.flashOtherRow.holds Try.pinned (OpenSpec.ofChange Rows.flashOtherSpec) :=
  OpenClaim.holds_of_wide 11 Try.f11 rfl rfl rfl rfl rfl rfl rfl ⟨rfl, rfl, rfl, rfl, rfl⟩ rfl rfl rfl rfl rfl (by kernel_rfl) Try.func11 (by kernel_rfl)
    (of_decide_eq_true (by kernel_rfl)) (by unfold Func.isWrapper; first | (rw [if_pos (by decide +kernel)]; kernel_rfl) | (rw [if_neg (by decide +kernel)]; exact ⟨rfl, rfl⟩))
    (fun os started H enc _ => lifted os started H enc)

theorem proved : Rows.FlashOtherSaid := over
#print axioms proved
end Go.Proofs.Ytidmoacjgbjlnaa.flashOther
