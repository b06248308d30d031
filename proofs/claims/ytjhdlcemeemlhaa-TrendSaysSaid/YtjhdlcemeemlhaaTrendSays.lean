/- TrendSays: of at most 200 things that were told the buckets, and of at most 200 buckets the sums, are the document's. No condition. -/
import Derived.Test.YtjhdlcemeemlhaaAw54
import Derived.Test.YtjhdlcemeemlhaaLift
import Derived.ChangeMaps5
namespace Go.Proofs.Ytjhdlcemeemlhaa.trendSays
open Go.RowKit Go.Deep Go.Maps
open Go.Proofs.Ytjhdlcemeemlhaa
open Go.ChangeShapes Go.WideShapes Go.ChangeAt
set_option linter.unusedVariables false
set_option linter.unusedSimpArgs false
set_option maxRecDepth 100000

set_option maxHeartbeats 8000000 in
theorem walk (W : World) (A : Option Addr) (n c : Nat) (rs : List (List Value)) (hi : Rows [.int .i64, .int .i64, .int .i64, .int .i64, .int .i64, .int .i64, .int .i64, .int .i64, .int .i64, .bool, .string] W A n rs) (hc : n ≤ c) (hr : n * 96 ≤ 140737488351232)
    (B : Option Addr) (m d : Nat) (rb : List (List Value)) (hb : Rows [.int .i64, .int .i64, .int .i64, .int .i64, .int .i64, .int .i64, .int .i64] W B m rb) (hd : m ≤ d) (hq : m * 56 ≤ 140737488351232) :
    Calls Try.prog 3 #[.slice A n c, .slice B m d] W fun e w' => e = .returned (.bool true) ∧ Below W.heap.size W w' := by
  obtain ⟨f, h⟩ := Ous.of_rows hi
  obtain ⟨g, h2⟩ := Bks.of_rows hb
  have D0 : Below W.heap.size W W := Below.refl _ _
  have KW := Lib.hid l54_awake
  clear hi hb
  by_cases hn : 200 < n
  · clear h h2
    go_enter Try.func3, Try.ntmps3
    go_wp2_with (go_at_call 4; refine (KW.out _).mono ?_; rintro e w' ⟨rfl, hb'⟩)
    all_goals try omega
    all_goals go_ret
    all_goals exact ⟨rfl, hb'⟩
  · by_cases hm : 200 < m
    · clear h h2
      go_enter Try.func3, Try.ntmps3
      go_wp2_with (go_at_call 4; refine (KW.out _).mono ?_; rintro e w' ⟨rfl, hb'⟩)
      all_goals try omega
      all_goals go_ret
      all_goals exact ⟨rfl, hb'⟩
    · have K1 := Lib.hid (tr_sum B m d g W h2 hd (by omega))
      have K2 := Lib.hid (fun w (hw : Below W.heap.size W w) => rt_sum B m d g w (h2.below hw) hd (by omega))
      have K3 := Lib.hid (fun w (hw : Below W.heap.size W w) => tr_of A n c f w (h.below hw) hc (by omega))
      have K4 := Lib.hid (fun w (hw : Below W.heap.size W w) => rt_of A n c f w (h.below hw) hc (by omega))
      have hlen : (ofS f n).all.length ≤ 1000 := by
        have := (ofS_good f n h.1 n (Nat.le_refl _)).len
        simp [St.all]; omega
      clear h h2
      generalize tkV g m = t1 at *
      generalize dpV g m = t2 at *
      go_enter Try.func3, Try.ntmps3
      go_wp2_with (fail)
      all_goals try omega
      refine K1.out.mono ?_
      rintro e w1 ⟨rfl, b1⟩
      go_wp2_with (fail)
      refine (K2.out _ b1).mono ?_
      rintro e w2 ⟨rfl, b2⟩
      have A2 := below_call b1 b2
      go_wp2_with (fail)
      refine (K3.out _ A2).mono ?_
      rintro e w3 ⟨B3, d3, rfl, hd3, hk3, b3⟩
      have A3 := below_call A2 b3
      have HK3 := Lib.hid hk3
      clear hk3
      go_wp2_with (fail)
      refine (K4.out _ A3).mono ?_
      rintro e w4 ⟨B4, d4, rfl, hd4, hk4, b4⟩
      have A4 := below_call A3 b4
      have KS := Lib.hid (tr_same B3 B4 _ d3 d4 _ w4 (HK3.out.below b4) hk4 hd3 hd4 hlen)
      clear hk4
      go_wp2_with (fail)
      refine KS.out.mono ?_
      rintro e w5 ⟨rfl, b5⟩
      have A5 := below_call A4 b5
      go_wp2_with (fail)
      refine (KW.out _).mono ?_
      rintro e w6 ⟨rfl, b6⟩
      have A6 := below_call A5 b6
      go_wp2_with (fail)
      all_goals go_ret
      all_goals exact ⟨rfl, A6⟩

set_option maxRecDepth 100000 in
theorem lifted (os : Os) (started : os.Started) (H : Type) (enc : TypeId × Value → H) :
    ReturnsInHanded {} Try.checked os 3 .any (Rows.trendSaysSpec.pre6 enc Try.prog Try.f3 Rows.trendSaysRow.domain false) (Rows.trendSaysSpec.post enc Try.prog Try.f3 false true false false) := by
  refine law_lift started (by kernel_rfl) Try.func3 rfl rfl ?_ (by kernel_rfl)
    (ChangeSpec.witness6 (enc := enc) (C := Try.checked) false ⟨#[], #[.slice none 0 0, .slice none 0 0], []⟩ 8 (by kernel_rfl) (by kernel_rfl) (by kernel_rfl) (by kernel_rfl)) ?_
  · intro ds hl
    match ds, hl with
    | [_, _], _ => exact ⟨rfl, rfl, rfl⟩
  · intro W base args ds p hval hA hlt hwt
    rw [Try.params3] at hA hval hwt
    obtain ⟨v0, vs0, d0, ds0, p0, q0, hargs, rfl, rfl, h0, r0⟩ := trodAll_cons hA
    obtain ⟨v1, vs1, d1, ds1, p1, q1, rfl, rfl, rfl, h1, r1⟩ := trodAll_cons r0
    obtain ⟨rfl, rfl, rfl⟩ := trodAll_nil r1
    obtain rfl : args = #[v0, v1] := by cases args; simp_all
    have wt0 : ∀ n ∈ d0.weights Try.prog 22, n ≤ reachBytes := fun n hn => by
      have := List.all_eq_true.1 hwt n (DataW.weights_mem_each (j := 0) (t := 22) (d := d0) rfl rfl n hn)
      simpa using this
    have lt0 : ∀ x ∈ p0, x.block < W.heap.size := fun x hx => hlt x (by simp [hx])
    obtain ⟨A0, n0, c0, xs0, rfl, hi0, hc0, hr0⟩ := open_rows_arg (nb := 96) 5 [.int .i64, .int .i64, .int .i64, .int .i64, .int .i64, .int .i64, .int .i64, .int .i64, .int .i64, .bool, .string] Try.underlying22 (by kernel_rfl) (by kernel_rfl) (by decide) (by kernel_rfl) (hval 0 22 v0 rfl rfl) h0 lt0 wt0
    have wt1 : ∀ n ∈ d1.weights Try.prog 23, n ≤ reachBytes := fun n hn => by
      have := List.all_eq_true.1 hwt n (DataW.weights_mem_each (j := 1) (t := 23) (d := d1) rfl rfl n hn)
      simpa using this
    have lt1 : ∀ x ∈ p1, x.block < W.heap.size := fun x hx => hlt x (by simp [hx])
    obtain ⟨A1, n1, c1, xs1, rfl, hi1, hc1, hr1⟩ := open_rows_arg (nb := 56) 5 [.int .i64, .int .i64, .int .i64, .int .i64, .int .i64, .int .i64, .int .i64] Try.underlying23 (by kernel_rfl) (by kernel_rfl) (by decide) (by kernel_rfl) (hval 1 23 v1 rfl rfl) h1 lt1 wt1
    exact walk W A0 n0 c0 xs0 hi0 hc0 hr0 A1 n1 c1 xs1 hi1 hc1 hr1

theorem over : Rows.trendSaysRow.holds Try.pinned (OpenSpec.ofChange Rows.trendSaysSpec) :=
  OpenClaim.holds_of_wide 3 Try.f3 rfl rfl rfl rfl rfl rfl rfl ⟨rfl, rfl, rfl, rfl, rfl⟩ rfl rfl rfl rfl rfl (by kernel_rfl) Try.func3 (by kernel_rfl)
    (of_decide_eq_true (by kernel_rfl)) (by unfold Func.isWrapper; first | (rw [if_pos (by decide +kernel)]; kernel_rfl) | (rw [if_neg (by decide +kernel)]; exact ⟨rfl, rfl⟩))
    (fun os started H enc _ => lifted os started H enc)

theorem proved : Rows.TrendSaysSaid := over
#print axioms proved
end Go.Proofs.Ytjhdlcemeemlhaa.trendSays
