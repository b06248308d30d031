/- RingMost holds of every list of numbers, and any number: the greatest one is there, and none is greater; a list of room for none keeps none; what is handed in stays. No condition. -/
import Derived.Test.YtpkakoabopikhaaLaw4
import Derived.Test.YtpkakoabopikhaaLift
namespace Go.Proofs.Ytpkakoabopikhaa.ringMost
open Go.ChangeShapes Go.WideShapes Go.ChangeAt Go.RowKit
set_option linter.unusedVariables false

def inB (m : Int) (l : List Int) : Bool := l.any fun x => x == m
theorem inB_step (m : Int) (xs : List Int) (k : Nat) (hk : k < xs.length) : inB m (xs.take (k + 1)) = (inB m (xs.take k) || (xs.getD k 0 == m)) := by
  unfold inB
  rw [List.take_add_one, List.any_append]
  simp [List.getD, List.getElem?_eq_getElem hk]
theorem mx_ge (l : List Int) (a : Int) : a ≤ mx a l ∧ (∀ x ∈ l, x ≤ mx a l) ∧ (mx a l = a ∨ mx a l ∈ l) := by
  induction l generalizing a with
  | nil => simp [mx]
  | cons y l ih =>
    obtain ⟨h1, h2, h3⟩ := ih (if a < y then y else a)
    have e : mx a (y :: l) = mx (if a < y then y else a) l := rfl
    rw [e]
    refine ⟨by split at h1 <;> split <;> omega, fun x hx => ?_, ?_⟩
    · rcases List.mem_cons.1 hx with rfl | hx
      · split at h1 <;> split <;> omega
      · exact h2 x hx
    · rcases h3 with h3 | h3
      · rw [h3]; split <;> simp
      · exact .inr (List.mem_cons_of_mem _ h3)
theorem most_ge (xs : List Int) (k : Nat) (hk : k < xs.length) : xs.getD k 0 ≤ mostV xs := by
  unfold mostV
  refine (mx_ge xs _).2.1 _ ?_
  simp [List.getD, List.getElem?_eq_getElem hk]
theorem most_in (xs : List Int) : inB (mostV xs) xs = mostB xs.length := by
  cases xs with
  | nil => rfl
  | cons a l =>
    have : mostV (a :: l) ∈ a :: l := by
      rcases (mx_ge (a :: l) a).2.2 with h | h
      · unfold mostV; simp only [List.getD_cons_zero]; rw [h]; simp
      · unfold mostV; simpa using h
    unfold inB mostB
    simp only [List.any_eq_true, beq_iff_eq, List.length_cons, Nat.zero_lt_succ, decide_true]
    exact ⟨_, this, rfl⟩

theorem push_full (xs : List Int) (n : Nat) (x : Int) (h : xs.length = n) (hn : n ≤ 512) : (pushL xs n x).length = n := by
  have hr : roomN n = n := by unfold roomN cntV; split <;> (try split) <;> omega
  unfold pushL
  rw [hr]
  split
  · simp; omega
  · rw [List.length_append, lastL_len, h]
    unfold cntV
    simp
    split <;> (try split) <;> omega

set_option maxRecDepth 100000 in
set_option maxHeartbeats 1000000 in
theorem walk (w : World) (A : Option Addr) (n c : Nat) (xs : List Int) (hi : Ints w A n xs) (hc : n ≤ c) (hr : n * 8 ≤ 140737488351232) (wx : ∀ x ∈ xs, (Lit.int .i64 x).wf = true) (x : Int) (wk : (Lit.int .i64 x).wf = true) :
    Calls Try.prog 5 #[.slice A n c, .int .i64 x] w fun e w' => e = .returned (.bool true) ∧ Below w.heap.size w w' := by
  clear wx
  have hA := At.refl w
  by_cases hn : 300 < n
  · clear hi
    go_enter Try.func5, Try.ntmps5
    go_wp2_with (go_at_call 6; refine (law4_awake w _ hA).mono ?_; rintro e w' ⟨rfl, hb⟩)
    go_ret
    exact ⟨rfl, hb⟩
  · have HI := Lib.hid hi
    have HL := Lib.hid hi.1
    have s1 := eqL_refl xs
    have q1 : inB (mostV xs) xs = mostB n := by rw [most_in, hi.1]
    have q2 : mostB n = decide (0 < n) := rfl
    have q3 : (mostB n == mostB n) = true := beq_self_eq_true _
    clear hi
    go_enter Try.func5, Try.ntmps5
    go_wp2_with (at_builtin; refine app_ints rfl _ _ rfl (n := 0) (cs := []) rfl rfl HI.out (World.ownsRow_nil w w.heap.size 3 1) (Nat.le_refl _) (by omega) ?_)
    intro v1 w1 hown hg
    have b1 : At w w1 := (Below.refl w.heap.size w).grown hg (Nat.le_refl _) (fun g h => by cases h)
    obtain ⟨V, d, rfl, hd⟩ := own_form hown
    have I1 := Lib.hid (Ints.of_own hown HL.out)
    clear hown hg hd
    obtain ⟨M, hM⟩ : ∃ M, mostV xs = M := ⟨_, rfl⟩
    have G := Lib.hid (fun k (hk : k < n) => hM ▸ most_ge xs k (by have := HL.out; omega))
    rw [hM] at q1
    obtain ⟨E, hE⟩ : ∃ E, mostB n = E := ⟨_, rfl⟩
    have hR := ring_most A n c xs w1 (HI.out.below b1) (by omega)
    rw [hM, hE] at hR
    rw [hE] at q1 q2
    have HR := Lib.hid hR
    have Q1 := Lib.hid q1
    have Q2 := Lib.hid q2
    clear hM hE hR q1 q2 q3
    go_wp2_with (go_at_call 9; refine HR.out.mono ?_; rintro e w' ⟨rfl, rfl⟩)
    go_loop [8, 25] (fun t i => ∃ k : Nat, k ≤ n ∧ t = .bool (inB M (xs.take k)) ∧ i = .int .i64 k) (fun _ i => n - (intOf i).toNat)
    case atStart => exact ⟨0, Nat.zero_le _, rfl, rfl⟩
    case round =>
      obtain ⟨k, hk, rfl, rfl⟩ := hrel
      by_cases hlt : k < n
      · obtain ⟨b, off, rfl, hbs, hcell⟩ := HI.out.at_ hlt
        have hck := (b1.cell (p := ⟨b, off + k, none⟩) hbs).trans hcell
        have hle := G.out k hlt
        have S := Lib.hid (inB_step M xs k (by have := HL.out; omega))
        clear hcell
        generalize xs.getD k 0 = y at *
        generalize inB M (xs.take k) = t at *
        cases t
        all_goals go_wp2
        all_goals
          go_round
          case rel => exact ⟨k + 1, by omega, by rw [S.out]; simp, by go_num⟩
          case measure => simp [intOf]; omega
      · obtain rfl : k = n := by omega
        have e3 : xs.take k = xs := List.take_of_length_le (by have := HL.out; omega)
        rw [e3, Q1.out]
        clear e3
        have q2 := Q2.out
        rcases Nat.eq_zero_or_pos k with h0 | h0
        · subst h0
          obtain rfl : xs = [] := List.eq_nil_of_length_eq_zero HL.out
          have hP := fun (w2 : World) (A2 : At w w2) => ring_push A 0 c [] 0 x w2 (HI.out.below A2) hc hr
          have z : pushL [] 0 x = [] := rfl
          rw [z] at hP
          have HP := Lib.hid hP
          clear hP z
          rw [decide_eq_false (by omega)] at q2
          subst q2
          go_wp2_with (go_at_call 14; ((with_reducible refine (HP.out w1 b1).mono ?_)); rintro e w2 ⟨B2, d2, rfl, _, i2, b2⟩; clear i2)
          have A2 : At w w2 := b1.below b2
          go_wp2_with (go_at_call 14; ((with_reducible refine (HP.out w2 A2).mono ?_)); rintro e w3 ⟨B3, d3, rfl, _, i3, b3⟩; clear i3)
          have A3 : At w w3 := A2.below b3
          go_wp2_with (go_at_call 13; refine (l4_ints w _ V _ c _ d [] [] _ A3 (HI.out.below A3) ((I1.out.below b2).below b3) (by omega) (by omega)).mono ?_; rintro e w4 ⟨rfl, a4, A4⟩)
          go_wp2_with (go_at_call 6; refine (law4_awake w _ A4).mono ?_; rintro e w7 ⟨rfl, hb⟩)
          go_ret
          exact ⟨rfl, hb⟩
        · have hP := ring_push A k c xs k x w1 (HI.out.below b1) hc hr
          obtain ⟨P, hp⟩ : ∃ P, pushL xs k x = P := ⟨_, rfl⟩
          have hpl := push_full xs k x HL.out (by omega)
          rw [hp] at hP hpl
          have HP := Lib.hid hP
          have HPL := Lib.hid hpl
          have z : pushL xs 0 x = [] := rfl
          have Z := Lib.hid z
          clear hp hP hpl z
          rw [decide_eq_true (by omega)] at q2
          subst q2
          go_wp2_with (go_at_call 14; ((with_reducible refine HP.out.mono ?_)); rintro e w2 ⟨B2, d2, rfl, _, i2, b2⟩; rw [HPL.out]; clear i2)
          have A2 : At w w2 := b1.below b2
          go_wp2_with (go_at_call 14; refine (ring_push _ _ _ xs 0 x _ (HI.out.below A2) hc hr).mono ?_; rintro e w3 ⟨B3, d3, rfl, _, i3, b3⟩; rw [Z.out]; clear i3)
          have A3 : At w w3 := A2.below b3
          go_wp2_with (go_at_call 13; refine (l4_ints w _ V _ c _ d xs xs _ A3 (HI.out.below A3) ((I1.out.below b2).below b3) (by omega) (by omega)).mono ?_; rintro e w4 ⟨rfl, a4, A4⟩)
          go_wp2_with (go_at_call 6; refine (law4_awake w _ A4).mono ?_; rintro e w7 ⟨rfl, hb⟩)
          go_ret
          exact ⟨rfl, hb⟩

theorem lifted (os : Os) (started : os.Started) (H : Type) (enc : TypeId × Value → H) :
    ReturnsInHanded {} Try.checked os 5 .any (Rows.ringMostSpec.pre6 enc Try.prog Try.f5 Rows.ringMostRow.domain false) (Rows.ringMostSpec.post enc Try.prog Try.f5 false true false false) := by
  refine law_lift started (by kernel_rfl) Try.func5 rfl rfl ?_ (by kernel_rfl)
    (ChangeSpec.witness6 (enc := enc) (C := Try.checked) false ⟨#[], #[.slice none 0 0, .int .i64 0], []⟩ 8 (by kernel_rfl) (by kernel_rfl) (by kernel_rfl) (by kernel_rfl)) ?_
  · intro ds hl
    match ds, hl with
    | [_, _], _ => exact ⟨rfl, rfl, rfl⟩
  · intro W base args ds p hval hA hlt hwt
    rw [Try.params5] at hA hval hwt
    obtain ⟨v0, vs0, d0, ds0, p0, q0, hargs, rfl, rfl, h0, r0⟩ := trodAll_cons hA
    obtain ⟨v1, vs1, d1, ds1, p1, q1, rfl, rfl, rfl, h1, r1⟩ := trodAll_cons r0
    obtain ⟨rfl, rfl, rfl⟩ := trodAll_nil r1
    obtain rfl : args = #[v0, v1] := by cases args; simp_all
    have wt0 : ∀ n ∈ d0.weights Try.prog 22, n ≤ reachBytes := fun n hn => by
      have := List.all_eq_true.1 hwt n (DataW.weights_mem_each (j := 0) (t := 22) (d := d0) rfl rfl n hn)
      simpa using this
    have lt0 : ∀ x ∈ p0, x.block < W.heap.size := fun x hx => hlt x (by simp [hx])
    obtain ⟨A0, n0, c0, xs0, rfl, hi0, hc0, hr0, w0⟩ := open_ints_arg Try.underlying22 Try.underlying3 (by kernel_rfl) (by kernel_rfl) (hval 0 22 v0 rfl rfl) h0 lt0 wt0
    obtain ⟨a1, rfl, rfl, rfl, w1⟩ := open_int Try.underlying3 (hval 1 3 v1 rfl rfl) h1
    exact walk W A0 n0 c0 xs0 hi0 hc0 hr0 w0 a1 w1

theorem over : Rows.ringMostRow.holds Try.pinned (OpenSpec.ofChange Rows.ringMostSpec) :=
  OpenClaim.holds_of_wide 5 Try.f5 rfl rfl rfl rfl rfl rfl rfl ⟨rfl, rfl, rfl, rfl, rfl⟩ rfl rfl rfl rfl rfl (by kernel_rfl) Try.func5 (by kernel_rfl)
    (of_decide_eq_true (by kernel_rfl)) (by unfold Func.isWrapper; first | (rw [if_pos (by decide +kernel)]; kernel_rfl) | (rw [if_neg (by decide +kernel)]; exact ⟨rfl, rfl⟩))
    (fun os started H enc _ => lifted os started H enc)

theorem proved : Rows.RingMostSaid := over
#print axioms proved
end Go.Proofs.Ytpkakoabopikhaa.ringMost
