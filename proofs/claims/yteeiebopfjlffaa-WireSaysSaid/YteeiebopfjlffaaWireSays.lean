/- WireSays: bytes and scripts are the document's: of every script and every text. -/
import Derived.Test.YteeiebopfjlffaaAw50
import Derived.Test.YteeiebopfjlffaaRgG
import Derived.Test.YteeiebopfjlffaaLift
import Derived.ChangeMaps5
namespace Go.Proofs.Yteeiebopfjlffaa.wireSays
open Go.RowKit Go.Deep
open Go.Proofs.Yteeiebopfjlffaa
open Go.ChangeShapes Go.WideShapes Go.ChangeAt
set_option linter.unusedVariables false
set_option linter.unusedSimpArgs false
set_option maxRecDepth 100000

theorem lg_few {f : Nat → Sp} {n : Nat} (h : lgB f n = false) : n ≤ 400 := by
  unfold lgB at h
  rw [Bool.or_eq_false_iff] at h
  have := of_decide_eq_false h.1
  omega
/-- What Get tells and what the document's Get tells is the same. -/
theorem got_same {text : List UInt8} {op ok ok2 : Bool} {ms ns : List Sp} (wm : wfL ms) (g : Got text op ok ms) (h : Got2 text op ok2 ns) : ok = ok2 ∧ ns.map nrm = ms.map nrm := by
  obtain ⟨ns', e, wn, h⟩ := h
  cases ok <;> cases ok2
  · obtain ⟨g1, _⟩ := g.2 rfl
    obtain ⟨h1, _⟩ := h.2 rfl
    exact ⟨rfl, by rw [e, g1, h1]⟩
  · obtain ⟨h1, h2, h3, h4⟩ := h.1 rfl
    exact absurd h3 ((g.2 rfl).2 h1 ns' wn h2 h4)
  · obtain ⟨h1, h2, h3, h4⟩ := g.1 rfl
    exact absurd h3 ((h.2 rfl).2 h1 ms wm h2 h4)
  · obtain ⟨_, h2, h3, _⟩ := h.1 rfl
    obtain ⟨_, g2, g3, _⟩ := g.1 rfl
    exact ⟨rfl, by rw [e]; exact en_same ns' ms wn wm h2 g2 (h3.trans g3.symm)⟩
set_option maxHeartbeats 8000000 in
theorem walk (W : World) (A : Option Addr) (n c : Nat) (rs : List (List Value)) (hi : Rows [.float .f64, .float .f64, .float .f64, .float .f64, .bool, .int .i64, .bool, .bool, .string] W A n rs) (hc : n ≤ c) (hr : n * 80 ≤ 140737488351232)
    (s : ByteArray) (hs : s.size ≤ maxLen) :
    Calls Try.prog 3 #[.slice A n c, .string s] W fun e w' => e = .returned (.bool true) ∧ Below W.heap.size W w' := by
  obtain ⟨f, h⟩ := Stp.of_rows hi
  have D0 : Below W.heap.size W W := Below.refl _ _
  have KL := Lib.hid (wi_long A n c f W h hc)
  have KW := Lib.hid l50_awake
  have H := Lib.hid h
  clear hi
  cases hL : lgB f n with
  | true =>
    rw [hL] at KL
    clear hL h
    go_enter Try.func3, Try.ntmps3
    go_wp2_with (first
      | (go_at_call 5; refine KL.out.mono ?_; rintro e w' ⟨rfl, rfl⟩)
      | (go_at_call 6; refine (KW.out _).mono ?_; rintro e w' ⟨rfl, hb⟩))
    all_goals go_ret
    all_goals exact ⟨rfl, hb⟩
  | false =>
    have hn := lg_few hL
    rw [hL] at KL
    clear hL
    by_cases h3 : 3000 < s.size
    · clear h
      go_enter Try.func3, Try.ntmps3
      go_wp2_with (first
        | (go_at_call 5; refine KL.out.mono ?_; rintro e w' ⟨rfl, rfl⟩)
        | (go_at_call 6; refine (KW.out _).mono ?_; rintro e w' ⟨rfl, hb⟩))
      all_goals go_ret
      all_goals exact ⟨rfl, hb⟩
    · have KP := Lib.hid (wi_put A n c f W h hc (by omega))
      have KR := Lib.hid fun w h => rp_put A n c f w h hc (by omega)
      have KS := Lib.hid fun w => wi_get s (by omega) w
      have KD := Lib.hid fun w => rg_get s (by omega) w
      clear h
      generalize puS (spL f n) = t at *
      generalize puB (spL f n) = P at *
      go_enter Try.func3, Try.ntmps3
      go_wp2_with (fail)
      refine KL.out.mono ?_
      rintro e w' ⟨rfl, rfl⟩
      go_wp2_with (fail)
      refine KP.out.mono ?_
      rintro e w1 ⟨rfl, b1⟩
      go_wp2_with (fail)
      refine (KR.out w1 (H.out.below b1)).mono ?_
      rintro e w2 ⟨rfl, b2⟩
      have A2 := below_call b1 b2
      go_wp2_with (fail)
      refine (KS.out _).mono ?_
      rintro e w3 ⟨B, m, d, g, ok, rfl, hs3, hd3, hm3, hg3, b3⟩
      have A3 := below_call A2 b3
      have H3 := Lib.hid hs3
      have G3 := Lib.hid hg3
      clear hs3 hg3
      go_wp2_with (fail)
      refine (KD.out _).mono ?_
      rintro e w4 ⟨B', m', d', g', ok', rfl, hs4, hd4, hm4, hg4, b4⟩
      have A4 := below_call A3 b4
      obtain ⟨rfl, hsame⟩ := got_same H3.out.wf G3.out hg4
      obtain rfl := same_len hsame
      have KA := Lib.hid (wi_alike B B' m' d d' g g' w4 (H3.out.below b4) hs4 hd3 hd4 (by omega) (same_at hsame))
      clear hs4 hg4 hsame
      go_wp2_with (first
        | (go_at_call 11; refine KA.out.mono ?_; rintro e w5 ⟨rfl, b5⟩)
        | (go_at_call 6; refine (KW.out _).mono ?_; rintro e w6 ⟨rfl, b6⟩))
      all_goals go_ret
      all_goals exact ⟨rfl, below_call (below_call A4 b5) b6⟩
set_option maxRecDepth 100000 in
theorem lifted (os : Os) (started : os.Started) (H : Type) (enc : TypeId × Value → H) :
    ReturnsInHanded {} Try.checked os 3 .any (Rows.wireSaysSpec.pre6 enc Try.prog Try.f3 Rows.wireSaysRow.domain false) (Rows.wireSaysSpec.post enc Try.prog Try.f3 false true false false) := by
  refine law_lift started (by kernel_rfl) Try.func3 rfl rfl ?_ (by kernel_rfl)
    (ChangeSpec.witness6 (enc := enc) (C := Try.checked) false ⟨#[], #[.slice none 0 0, .string ⟨#[]⟩], []⟩ 8 (by kernel_rfl) (by kernel_rfl) (by kernel_rfl) (by kernel_rfl)) ?_
  · intro ds hl
    match ds, hl with
    | [_, _], _ => exact ⟨rfl, rfl, rfl⟩
  · intro W base args ds p hval hA hlt hwt
    rw [Try.params3] at hA hval hwt
    obtain ⟨v0, vs0, d0, ds0, p0, q0, hargs, rfl, rfl, h0, r0⟩ := trodAll_cons hA
    obtain ⟨v1, vs1, d1, ds1, p1, q1, rfl, rfl, rfl, h1, r1⟩ := trodAll_cons r0
    obtain ⟨rfl, rfl, rfl⟩ := trodAll_nil r1
    obtain rfl : args = #[v0, v1] := by cases args; simp_all
    have wt0 : ∀ n ∈ d0.weights Try.prog 22, n ≤ reachBytes := fun n hn => by
      have := List.all_eq_true.1 hwt n (DataW.weights_mem_each (j := 0) (t := 22) (d := d0) rfl rfl n hn)
      simpa using this
    have lt0 : ∀ x ∈ p0, x.block < W.heap.size := fun x hx => hlt x (by simp [hx])
    obtain ⟨A0, n0, c0, xs0, rfl, hi0, hc0, hr0⟩ := open_rows_arg (nb := 80) 5 [.float .f64, .float .f64, .float .f64, .float .f64, .bool, .int .i64, .bool, .bool, .string] Try.underlying22 (by kernel_rfl) (by kernel_rfl) (by decide) (by kernel_rfl) (hval 0 22 v0 rfl rfl) h0 lt0 wt0
    obtain ⟨a1, rfl, rfl, rfl, w1⟩ := Go.ChangeMaps.open_string Try.underlying9 (hval 1 9 v1 rfl rfl) h1
    exact walk W A0 n0 c0 xs0 hi0 hc0 hr0 a1 w1

theorem over : Rows.wireSaysRow.holds Try.pinned (OpenSpec.ofChange Rows.wireSaysSpec) :=
  OpenClaim.holds_of_wide 3 Try.f3 rfl rfl rfl rfl rfl rfl rfl ⟨rfl, rfl, rfl, rfl, rfl⟩ rfl rfl rfl rfl rfl (by kernel_rfl) Try.func3 (by kernel_rfl)
    (of_decide_eq_true (by kernel_rfl)) (by unfold Func.isWrapper; first | (rw [if_pos (by decide +kernel)]; kernel_rfl) | (rw [if_neg (by decide +kernel)]; exact ⟨rfl, rfl⟩))
    (fun os started H enc _ => lifted os started H enc)

theorem proved : Rows.WireSaysSaid := over
#print axioms proved
end Go.Proofs.Yteeiebopfjlffaa.wireSays
