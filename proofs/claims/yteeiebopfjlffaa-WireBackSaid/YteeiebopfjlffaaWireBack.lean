/- WireBack: what is put is got, what is got is put as it was: of every script and every text. -/
import Derived.Test.YteeiebopfjlffaaAw50
import Derived.Test.YteeiebopfjlffaaLift
import Derived.ChangeMaps5
namespace Go.Proofs.Yteeiebopfjlffaa.wireBack
open Go.RowKit Go.Deep
open Go.Proofs.Yteeiebopfjlffaa
open Go.ChangeShapes Go.WideShapes Go.ChangeAt
set_option linter.unusedVariables false
set_option linter.unusedSimpArgs false
set_option maxRecDepth 100000

theorem lg_few {f : Nat → Sp} {n : Nat} (h : lgB f n = false) : n ≤ 400 := by
  unfold lgB at h
  rw [Bool.or_eq_false_iff] at h
  have := of_decide_eq_false h.1
  omega
theorem pu_none {l : List Sp} (h : puB l = false) : puS l = ⟨#[]⟩ := by unfold puS; rw [h]; rfl
/-- The second half: of any text. -/
theorem tail_ok {P : Bool} {t : ByteArray} (h : P = false → t = ⟨#[]⟩) : P = true ∨ (P = false ∧ t = ⟨#[]⟩) := by
  cases P
  · exact .inr ⟨rfl, h rfl⟩
  · exact .inl rfl
set_option maxHeartbeats 8000000 in
theorem walk (W : World) (A : Option Addr) (n c : Nat) (rs : List (List Value)) (hi : Rows [.float .f64, .float .f64, .float .f64, .float .f64, .bool, .int .i64, .bool, .bool, .string] W A n rs) (hc : n ≤ c) (hr : n * 80 ≤ 140737488351232)
    (s : ByteArray) (hs : s.size ≤ maxLen) :
    Calls Try.prog 4 #[.slice A n c, .string s] W fun e w' => e = .returned (.bool true) ∧ Below W.heap.size W w' := by
  obtain ⟨f, h⟩ := Stp.of_rows hi
  have D0 : Below W.heap.size W W := Below.refl _ _
  have KL := Lib.hid (wi_long A n c f W h hc)
  have KW := Lib.hid l50_awake
  have H := Lib.hid h
  clear hi
  cases hL : lgB f n with
  | true =>
    rw [hL] at KL
    clear hL h
    go_enter Try.func4, Try.ntmps4
    go_wp2_with (first
      | (go_at_call 5; refine KL.out.mono ?_; rintro e w' ⟨rfl, rfl⟩)
      | (go_at_call 6; refine (KW.out _).mono ?_; rintro e w' ⟨rfl, hb⟩))
    all_goals go_ret
    all_goals exact ⟨rfl, hb⟩
  | false =>
    have hn := lg_few hL
    rw [hL] at KL
    clear hL
    by_cases h3 : 3000 < s.size
    · clear h
      go_enter Try.func4, Try.ntmps4
      go_wp2_with (first
        | (go_at_call 5; refine KL.out.mono ?_; rintro e w' ⟨rfl, rfl⟩)
        | (go_at_call 6; refine (KW.out _).mono ?_; rintro e w' ⟨rfl, hb⟩))
      all_goals go_ret
      all_goals exact ⟨rfl, hb⟩
    · have KP := Lib.hid (wi_put A n c f W h hc (by omega))
      have KS := Lib.hid fun w => wi_get s (by omega) w
      have hsz := pu_size (l := spL f n)
      have KG := Lib.hid fun w => wi_get (puS (spL f n)) hsz w
      have HB := Lib.hid (fun (hp : puB (spL f n) = true) (ms : List Sp) (ok : Bool) (wm : wfL ms) (g : Got (toldB (puS (spL f n))).data.toList (openB (puS (spL f n))) ok ms) => got_put (l := spL f n) (ms := ms) (ok := ok) h.wf wm hp g)
      have HN := Lib.hid (pu_none (l := spL f n))
      clear h
      cases hP : puB (spL f n) with
      | false =>
        have e := HN.out hP
        rw [hP, e] at KP
        clear HB hP e hsz KG HN
        go_enter Try.func4, Try.ntmps4
        go_wp2_with (fail)
        refine KL.out.mono ?_
        rintro e w' ⟨rfl, rfl⟩
        go_wp2_with (fail)
        refine KP.out.mono ?_
        rintro e w1 ⟨rfl, b1⟩
        go_wp2_with (fail)
        refine (KS.out _).mono ?_
        rintro e wa ⟨B2, m2, d2, g2, ok2, rfl, hs2, hd2, hm2, hg2, ba⟩
        have A2 := below_call b1 ba
        have KQ := Lib.hid (wi_put B2 m2 d2 g2 wa hs2 hd2 (by omega))
        cases ok2 with
        | true =>
          obtain ⟨hp2, hv2⟩ := put_got hg2
          rw [hp2, hv2] at KQ
          clear hs2 hg2 hp2 hv2
          go_wp2_with (fail)
          refine KQ.out.mono ?_
          rintro e wb ⟨rfl, bb⟩
          go_wp2_with (go_at_call 6; refine (KW.out _).mono ?_; rintro e wc ⟨rfl, bc⟩)
          all_goals go_ret
          all_goals exact ⟨rfl, below_call (below_call A2 bb) bc⟩
        | false =>
          have hm := congrArg List.length (hg2.2 rfl).1
          rw [spL_len] at hm
          obtain rfl : m2 = 0 := hm
          rw [show puB (spL g2 0) = true from rfl] at KQ
          generalize puS (spL g2 0) = v2 at *
          clear hs2 hg2
          go_wp2_with (fail)
          refine KQ.out.mono ?_
          rintro e wb ⟨rfl, bb⟩
          go_wp2_with (go_at_call 6; refine (KW.out _).mono ?_; rintro e wc ⟨rfl, bc⟩)
          all_goals go_ret
          all_goals exact ⟨rfl, below_call (below_call A2 bb) bc⟩
      | true =>
        rw [hP] at KP
        have HB := Lib.hid (HB.out hP)
        clear hP HN
        generalize puS (spL f n) = t at *
        go_enter Try.func4, Try.ntmps4
        go_wp2_with (fail)
        refine KL.out.mono ?_
        rintro e w' ⟨rfl, rfl⟩
        go_wp2_with (fail)
        refine KP.out.mono ?_
        rintro e w1 ⟨rfl, b1⟩
        go_wp2_with (fail)
        refine (KG.out _).mono ?_
        rintro e w2 ⟨B1, m1, d1, g1, ok1, rfl, hs1, hd1, hm1, hg1, b2⟩
        obtain ⟨rfl, hsame, hp1, hv1⟩ := HB.out _ _ hs1.wf hg1
        obtain rfl := same_len hsame
        have A1 := below_call b1 b2
        have KQ1 := Lib.hid (wi_put B1 m1 d1 g1 w2 hs1 hd1 (by omega))
        rw [hp1, hv1] at KQ1
        have HE := Lib.hid (same_at hsame)
        have H1 := Lib.hid hs1
        clear hs1 hg1 hsame hp1 hv1 HB KG
        go_wp2_with (fail)
        refine KQ1.out.mono ?_
        rintro e w3 ⟨rfl, b3⟩
        have A3 := below_call A1 b3
        have KA := Lib.hid (wi_alike A B1 m1 c d1 f g1 w3 (H.out.below A3) (H1.out.below b3) hc hd1 (by omega) HE.out)
        go_wp2_with (fail)
        refine KA.out.mono ?_
        rintro e w4 ⟨rfl, b4⟩
        have A4 := below_call A3 b4
        go_wp2_with (fail)
        refine (KS.out _).mono ?_
        rintro e wa ⟨B2, m2, d2, g2, ok2, rfl, hs2, hd2, hm2, hg2, ba⟩
        have A2 := below_call A4 ba
        have KQ := Lib.hid (wi_put B2 m2 d2 g2 wa hs2 hd2 (by omega))
        cases ok2 with
        | true =>
          obtain ⟨hp2, hv2⟩ := put_got hg2
          rw [hp2, hv2] at KQ
          clear hs2 hg2 hp2 hv2
          go_wp2_with (fail)
          refine KQ.out.mono ?_
          rintro e wb ⟨rfl, bb⟩
          go_wp2_with (go_at_call 6; refine (KW.out _).mono ?_; rintro e wc ⟨rfl, bc⟩)
          all_goals go_ret
          all_goals exact ⟨rfl, below_call (below_call A2 bb) bc⟩
        | false =>
          have hm := congrArg List.length (hg2.2 rfl).1
          rw [spL_len] at hm
          obtain rfl : m2 = 0 := hm
          rw [show puB (spL g2 0) = true from rfl] at KQ
          generalize puS (spL g2 0) = v2 at *
          clear hs2 hg2
          go_wp2_with (fail)
          refine KQ.out.mono ?_
          rintro e wb ⟨rfl, bb⟩
          go_wp2_with (go_at_call 6; refine (KW.out _).mono ?_; rintro e wc ⟨rfl, bc⟩)
          all_goals go_ret
          all_goals exact ⟨rfl, below_call (below_call A2 bb) bc⟩
set_option maxRecDepth 100000 in
theorem lifted (os : Os) (started : os.Started) (H : Type) (enc : TypeId × Value → H) :
    ReturnsInHanded {} Try.checked os 4 .any (Rows.wireBackSpec.pre6 enc Try.prog Try.f4 Rows.wireBackRow.domain false) (Rows.wireBackSpec.post enc Try.prog Try.f4 false true false false) := by
  refine law_lift started (by kernel_rfl) Try.func4 rfl rfl ?_ (by kernel_rfl)
    (ChangeSpec.witness6 (enc := enc) (C := Try.checked) false ⟨#[], #[.slice none 0 0, .string ⟨#[]⟩], []⟩ 8 (by kernel_rfl) (by kernel_rfl) (by kernel_rfl) (by kernel_rfl)) ?_
  · intro ds hl
    match ds, hl with
    | [_, _], _ => exact ⟨rfl, rfl, rfl⟩
  · intro W base args ds p hval hA hlt hwt
    rw [Try.params4] at hA hval hwt
    obtain ⟨v0, vs0, d0, ds0, p0, q0, hargs, rfl, rfl, h0, r0⟩ := trodAll_cons hA
    obtain ⟨v1, vs1, d1, ds1, p1, q1, rfl, rfl, rfl, h1, r1⟩ := trodAll_cons r0
    obtain ⟨rfl, rfl, rfl⟩ := trodAll_nil r1
    obtain rfl : args = #[v0, v1] := by cases args; simp_all
    have wt0 : ∀ n ∈ d0.weights Try.prog 22, n ≤ reachBytes := fun n hn => by
      have := List.all_eq_true.1 hwt n (DataW.weights_mem_each (j := 0) (t := 22) (d := d0) rfl rfl n hn)
      simpa using this
    have lt0 : ∀ x ∈ p0, x.block < W.heap.size := fun x hx => hlt x (by simp [hx])
    obtain ⟨A0, n0, c0, xs0, rfl, hi0, hc0, hr0⟩ := open_rows_arg (nb := 80) 5 [.float .f64, .float .f64, .float .f64, .float .f64, .bool, .int .i64, .bool, .bool, .string] Try.underlying22 (by kernel_rfl) (by kernel_rfl) (by decide) (by kernel_rfl) (hval 0 22 v0 rfl rfl) h0 lt0 wt0
    obtain ⟨a1, rfl, rfl, rfl, w1⟩ := Go.ChangeMaps.open_string Try.underlying9 (hval 1 9 v1 rfl rfl) h1
    exact walk W A0 n0 c0 xs0 hi0 hc0 hr0 a1 w1

theorem over : Rows.wireBackRow.holds Try.pinned (OpenSpec.ofChange Rows.wireBackSpec) :=
  OpenClaim.holds_of_wide 4 Try.f4 rfl rfl rfl rfl rfl rfl rfl ⟨rfl, rfl, rfl, rfl, rfl⟩ rfl rfl rfl rfl rfl (by kernel_rfl) Try.func4 (by kernel_rfl)
    (of_decide_eq_true (by kernel_rfl)) (by unfold Func.isWrapper; first | (rw [if_pos (by decide +kernel)]; kernel_rfl) | (rw [if_neg (by decide +kernel)]; exact ⟨rfl, rfl⟩))
    (fun os started H enc _ => lifted os started H enc)

theorem proved : Rows.WireBackSaid := over
#print axioms proved
end Go.Proofs.Yteeiebopfjlffaa.wireBack
