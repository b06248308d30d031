/- BeatFades holds of every beat and every two times: as long as no drop comes, it is told never to drip faster. No condition. -/
import Derived.Test.YtidmoacjgbjlnaaBeatA
namespace Go.Proofs.Ytidmoacjgbjlnaa.beatFades
open Go.ChangeShapes Go.WideShapes Go.ChangeAt Go.RowKit
set_option linter.unusedVariables false
set_option linter.unusedSimpArgs false
set_option maxRecDepth 100000
attribute [local go_sem] cell_set_ite Near.cell Near.frozen

theorem ediv_anti {A x y : Int} (hA : 0 ≤ A) (h0 : 0 < x) (h : x ≤ y) : A / y ≤ A / x := by
  have q0 : 0 ≤ A / y := Int.ediv_nonneg hA (by omega)
  refine (Int.le_ediv_iff_mul_le h0).2 (Int.le_trans (Int.mul_le_mul_of_nonneg_left h q0) ?_)
  exact Int.ediv_mul_le _ (by omega)
theorem cl_mono {m n : Int} (h : m ≤ n) : clV m ≤ clV n := by
  unfold clV withV; split <;> (try split) <;> (try split) <;> (try split) <;> (try split) <;> (try split) <;> omega
theorem sin_mono {t u l : Int} (h : t ≤ u) : sinV t l ≤ sinV u l := by
  have h1 := cl_mono h
  have h2 := cl_mono (show clV t - clV l ≤ clV u - clV l by omega)
  unfold sinV subV
  omega
theorem sh_falls {m n : Int} (h0 : 1 ≤ m) (h : m ≤ n) : shV n 15 ≤ shV m 15 := by
  have k1 : knB 15 = true := by decide
  have c0 := (cl_one h0).1
  have cm := cl_mono h
  unfold shV
  rw [k1, if_pos (⟨rfl, h0⟩ : true = true ∧ 1 ≤ m), if_pos (⟨rfl, by omega⟩ : true = true ∧ 1 ≤ n)]
  exact ediv_anti (by omega) (by omega) (by omega)
theorem last_last (xs : List Int) : lastL (lastL xs 5) 5 = lastL xs 5 := by
  have h : (lastL xs 5).length ≤ 5 := by rw [lastL_len, five_cnt]; omega
  generalize lastL xs 5 = ys at *
  unfold lastL
  rw [five_cnt, show ys.length - min ys.length 5 = 0 by omega, List.drop_zero]
theorem mid_last (xs : List Int) : midV (lastL xs 5) = midV xs := by
  unfold midV fiveL
  rw [last_last, lastL_len, five_cnt]
  by_cases h : xs.length = 0
  · rw [if_pos (by omega), if_pos h]
  · rw [if_neg (by omega), if_neg h, show min (min xs.length 5) 5 = min xs.length 5 by omega]
theorem any_last (xs : List Int) : anyB (lastL xs 5).length = anyB xs.length := by
  unfold anyB; rw [lastL_len, five_cnt, decide_eq_decide]; omega
theorem rtB_is (q : Bool) (n : Nat) (xs : List Int) (l t : Int) : rtB q n xs l t 15 = gapB q n := by
  unfold rtB gapV
  cases h : gapB q n
  · rfl
  · have := sinV_bd t l
    have k1 : knB 15 = true := by decide
    rw [if_pos rfl, Bool.true_and]
    unfold shB
    rw [k1, Bool.true_and, decide_eq_true_eq]
    omega
theorem rt_falls {q : Bool} {n : Nat} {xs : List Int} {l t u : Int} (hg : gapB q n = true) (h : t ≤ u) : rtV q n xs l u 15 ≤ rtV q n xs l t 15 := by
  have h1 := sin_mono (l := l) h
  have h2 := sinV_bd t l
  unfold rtV gapV
  rw [hg, if_pos rfl, if_pos rfl, if_pos rfl, if_pos rfl]
  exact sh_falls (by omega) (by omega)

set_option maxHeartbeats 4000000 in
theorem walk (W : World) (q : Bool) (l : Int) (wl : (Lit.int .i64 l).wf = true) (A0 : Option Addr) (n c : Nat) (xs : List Int) (hi : Ints W A0 n xs) (hc : n ≤ c) (hr : n * 8 ≤ 140737488351232) (wx : ∀ x ∈ xs, (Lit.int .i64 x).wf = true) (t : Int) (wt : (Lit.int .i64 t).wf = true) (u : Int) (wu : (Lit.int .i64 u).wf = true) :
    Calls Try.prog 7 #[.agg #[.bool q, .int .i64 l, .slice A0 n c], .int .i64 t, .int .i64 u] W fun e W' => e = .returned (.bool true) ∧ Below W.heap.size W W' := by
  have A : Below W.heap.size W W := Below.refl _ _
  by_cases hn : 10 < n
  · have t0 : decide (10 < (n : Int)) = true := decide_eq_true (by omega)
    clear hi
    go_enter Try.func7, Try.ntmps7
    go_wp2_with (fail)
    refine (law24_awake _).mono ?_
    rintro e w1 ⟨rfl, hb⟩
    replace A : Below W.heap.size W w1 := by (refine below_call ?_ hb; (repeat (first | (with_reducible exact Below.refl _ _) | (with_reducible assumption) | (with_reducible refine Near.up _ ?_) | (with_reducible refine Below.drew ?_) | (with_reducible refine below_alloc_on ?_ _) | (with_reducible refine below_set_on ?_ (by first | (simp; done) | (simp; omega) | omega) _))))
    clear hb
    have z_w1 : W.heap.size ≤ w1.heap.size := A.size
    go_wp2
    all_goals go_ret
    all_goals exact ⟨rfl, A⟩
  · have t0 : decide (10 < (n : Int)) = false := decide_eq_false (by omega)
    obtain ⟨a, b, hab, hsw⟩ : ∃ a b, a ≤ b ∧ ((decide (u < t) = true ∧ a = u ∧ b = t) ∨ (decide (u < t) = false ∧ a = t ∧ b = u)) := by
      by_cases h : u < t
      · exact ⟨u, t, by omega, .inl ⟨decide_eq_true h, rfl, rfl⟩⟩
      · exact ⟨t, u, by omega, .inr ⟨decide_eq_false h, rfl, rfl⟩⟩
    have hl := hi.1
    have HX := fun w (h : Below W.heap.size W w) => bt_rate q l A0 n c xs a 15 w (hi.below h) hc hr
    have HY := fun w (h : Below W.heap.size W w) => bt_rate q l A0 n c xs b 15 w (hi.below h) hc hr
    have HS := Lib.hid (fun w (h : Below W.heap.size W w) => (bt_still q l A0 n c xs a w (hi.below h) hc hr).mono (fun _ _ h => h.ints))
    have HZ := fun w B d (h : Ints w B (lastL xs 5).length (lastL xs 5)) (hd : (lastL xs 5).length ≤ d) => bt_rate q l B (lastL xs 5).length d (lastL xs 5) b 15 w h hd (by rw [lastL_len, five_cnt]; omega)
    have hz : rtV q (lastL xs 5).length (lastL xs 5) l b 15 = rtV q n xs l b 15 ∧ rtB q (lastL xs 5).length (lastL xs 5) l b 15 = rtB q n xs l b 15 := by
      rw [rtB_is, rtB_is]
      unfold rtV gapV gapB
      rw [any_last, mid_last, hl]
      exact ⟨rfl, rfl⟩
    rw [hz.1, hz.2, rtB_is] at HZ
    rw [rtB_is] at HX HY
    have hf : gapB q n = true → rtV q n xs l b 15 ≤ rtV q n xs l a 15 := fun h => rt_falls h hab
    generalize rtV q n xs l a 15 = x at *
    generalize rtV q n xs l b 15 = y at *
    generalize gapB q n = g at *
    generalize lastL xs 5 = ys at *
    have HX := Lib.hid HX
    have HY := Lib.hid HY
    have HZ := Lib.hid HZ
    clear hi hz hab hl
    rcases hsw with ⟨sw, rfl, rfl⟩ | ⟨sw, rfl, rfl⟩
    all_goals
      go_enter Try.func7, Try.ntmps7
      go_wp2_with (fail)
      refine (HX.out _ (by (repeat (first | (with_reducible exact Below.refl _ _) | (with_reducible assumption) | (with_reducible refine Near.up _ ?_) | (with_reducible refine Below.drew ?_) | (with_reducible refine below_alloc_on ?_ _) | (with_reducible refine below_set_on ?_ (by first | (simp; done) | (simp; omega) | omega) _))))).mono ?_
      rintro e w1 ⟨rfl, hb⟩
      replace A : Below W.heap.size W w1 := by (refine below_call ?_ hb; (repeat (first | (with_reducible exact Below.refl _ _) | (with_reducible assumption) | (with_reducible refine Near.up _ ?_) | (with_reducible refine Below.drew ?_) | (with_reducible refine below_alloc_on ?_ _) | (with_reducible refine below_set_on ?_ (by first | (simp; done) | (simp; omega) | omega) _))))
      replace B := Box.below (g := W.heap.size) (by (repeat (first | (with_reducible assumption) | (with_reducible exact box_new _ _ _) | ((with_reducible apply box_at); (first | (with_reducible rfl) | (simp <;> omega))) | (with_reducible apply Box.drew) | (with_reducible apply Box.drewN) | (with_reducible apply Box.near) | (with_reducible apply Box.alloc) | ((with_reducible apply box_far); (first | assumption | omega | (simp <;> omega))) | ((with_reducible apply Box.one_set); (with_reducible assumption)) | ((with_reducible apply Box.two_set); (with_reducible assumption)) | ((with_reducible apply Box.three_set); (with_reducible assumption)) | (with_reducible apply Box.set) | (simp only [List.size_toArray, List.length_cons, List.length_nil, Array.size_setIfInBounds] <;> omega)))) hb
      (try simp only [List.setIfInBounds_toArray, List.set_cons_zero, List.set_cons_succ] at B)
      (try clear cB fB)
      clear hb
      have z_w1 : W.heap.size ≤ w1.heap.size := A.size
      obtain ⟨lB_w1, cB, fB⟩ := id B
      go_wp2_with (fail)
      refine (HY.out _ (by (repeat (first | (with_reducible exact Below.refl _ _) | (with_reducible assumption) | (with_reducible refine Near.up _ ?_) | (with_reducible refine Below.drew ?_) | (with_reducible refine below_alloc_on ?_ _) | (with_reducible refine below_set_on ?_ (by first | (simp; done) | (simp; omega) | omega) _))))).mono ?_
      rintro e w2 ⟨rfl, hb⟩
      replace A : Below W.heap.size W w2 := by (refine below_call ?_ hb; (repeat (first | (with_reducible exact Below.refl _ _) | (with_reducible assumption) | (with_reducible refine Near.up _ ?_) | (with_reducible refine Below.drew ?_) | (with_reducible refine below_alloc_on ?_ _) | (with_reducible refine below_set_on ?_ (by first | (simp; done) | (simp; omega) | omega) _))))
      replace B := Box.below (g := W.heap.size) (by (repeat (first | (with_reducible assumption) | (with_reducible exact box_new _ _ _) | ((with_reducible apply box_at); (first | (with_reducible rfl) | (simp <;> omega))) | (with_reducible apply Box.drew) | (with_reducible apply Box.drewN) | (with_reducible apply Box.near) | (with_reducible apply Box.alloc) | ((with_reducible apply box_far); (first | assumption | omega | (simp <;> omega))) | ((with_reducible apply Box.one_set); (with_reducible assumption)) | ((with_reducible apply Box.two_set); (with_reducible assumption)) | ((with_reducible apply Box.three_set); (with_reducible assumption)) | (with_reducible apply Box.set) | (simp only [List.size_toArray, List.length_cons, List.length_nil, Array.size_setIfInBounds] <;> omega)))) hb
      (try simp only [List.setIfInBounds_toArray, List.set_cons_zero, List.set_cons_succ] at B)
      (try clear cB fB)
      clear hb
      have z_w2 : W.heap.size ≤ w2.heap.size := A.size
      obtain ⟨lB_w2, cB, fB⟩ := id B
      go_wp2_with (fail)
      refine (HS.out _ (by (repeat (first | (with_reducible exact Below.refl _ _) | (with_reducible assumption) | (with_reducible refine Near.up _ ?_) | (with_reducible refine Below.drew ?_) | (with_reducible refine below_alloc_on ?_ _) | (with_reducible refine below_set_on ?_ (by first | (simp; done) | (simp; omega) | omega) _))))).mono ?_
      rintro e w3 ⟨B5, d5, rfl, hd5, hi5, hb⟩
      replace A := below_call A hb
      replace B := B.below hb
      clear hb cB fB
      obtain ⟨lB_w3, cB, fB⟩ := id B
      have I5 := Lib.hid (hi5.below (below_alloc_on (Below.refl w3.heap.size w3) (.cells #[.bool q, .int .i64 l, .slice B5 ys.length d5] 36)))
      clear hi5
      go_wp2_with (fail)
      refine (HZ.out _ _ _ I5.out hd5).mono ?_
      rintro e w4 ⟨rfl, hb⟩
      replace A : Below W.heap.size W w4 := by (refine below_call ?_ hb; (repeat (first | (with_reducible exact Below.refl _ _) | (with_reducible assumption) | (with_reducible refine Near.up _ ?_) | (with_reducible refine Below.drew ?_) | (with_reducible refine below_alloc_on ?_ _) | (with_reducible refine below_set_on ?_ (by first | (simp; done) | (simp; omega) | omega) _))))
      replace B := Box.below (g := W.heap.size) (by (repeat (first | (with_reducible assumption) | (with_reducible exact box_new _ _ _) | ((with_reducible apply box_at); (first | (with_reducible rfl) | (simp <;> omega))) | (with_reducible apply Box.drew) | (with_reducible apply Box.drewN) | (with_reducible apply Box.near) | (with_reducible apply Box.alloc) | ((with_reducible apply box_far); (first | assumption | omega | (simp <;> omega))) | ((with_reducible apply Box.one_set); (with_reducible assumption)) | ((with_reducible apply Box.two_set); (with_reducible assumption)) | ((with_reducible apply Box.three_set); (with_reducible assumption)) | (with_reducible apply Box.set) | (simp only [List.size_toArray, List.length_cons, List.length_nil, Array.size_setIfInBounds] <;> omega)))) hb
      (try simp only [List.setIfInBounds_toArray, List.set_cons_zero, List.set_cons_succ] at B)
      (try clear cB fB)
      clear hb
      have z_w4 : W.heap.size ≤ w4.heap.size := A.size
      obtain ⟨lB_w4, cB, fB⟩ := id B
      cases g
      · go_wp2_with (fail)
        refine (law24_awake _).mono ?_
        rintro e w5 ⟨rfl, hb⟩
        replace A : Below W.heap.size W w5 := by (refine below_call ?_ hb; (repeat (first | (with_reducible exact Below.refl _ _) | (with_reducible assumption) | (with_reducible refine Near.up _ ?_) | (with_reducible refine Below.drew ?_) | (with_reducible refine below_alloc_on ?_ _) | (with_reducible refine below_set_on ?_ (by first | (simp; done) | (simp; omega) | omega) _))))
        clear hb
        have z_w5 : W.heap.size ≤ w5.heap.size := A.size
        go_wp2
        all_goals go_ret
        all_goals exact ⟨rfl, A⟩
      · have dec := decide_eq_true (hf rfl)
        go_wp2_with (fail)
        refine (law24_awake _).mono ?_
        rintro e w5 ⟨rfl, hb⟩
        replace A : Below W.heap.size W w5 := by (refine below_call ?_ hb; (repeat (first | (with_reducible exact Below.refl _ _) | (with_reducible assumption) | (with_reducible refine Near.up _ ?_) | (with_reducible refine Below.drew ?_) | (with_reducible refine below_alloc_on ?_ _) | (with_reducible refine below_set_on ?_ (by first | (simp; done) | (simp; omega) | omega) _))))
        clear hb
        have z_w5 : W.heap.size ≤ w5.heap.size := A.size
        go_wp2
        all_goals go_ret
        all_goals exact ⟨rfl, A⟩

set_option maxRecDepth 100000 in
theorem lifted (os : Os) (started : os.Started) (H : Type) (enc : TypeId × Value → H) :
    ReturnsInHanded {} Try.checked os 7 .any (Rows.beatFadesSpec.pre6 enc Try.prog Try.f7 Rows.beatFadesRow.domain false) (Rows.beatFadesSpec.post enc Try.prog Try.f7 false true false false) := by
  refine law_lift started (by kernel_rfl) Try.func7 rfl rfl ?_ (by kernel_rfl)
    (ChangeSpec.witness6 (enc := enc) (C := Try.checked) false ⟨#[], #[.agg #[.bool false, .int .i64 0, .slice none 0 0], .int .i64 0, .int .i64 0], []⟩ 8 (by kernel_rfl) (by kernel_rfl) (by kernel_rfl) (by kernel_rfl)) ?_
  · intro ds hl
    match ds, hl with
    | [_, _, _], _ => exact ⟨rfl, rfl, rfl⟩
  · intro W base args ds p hval hA hlt hwt
    rw [Try.params7] at hA hval hwt
    obtain ⟨v0, vs0, d0, ds0, p0, q0, hargs, rfl, rfl, h0, r0⟩ := trodAll_cons hA
    obtain ⟨v1, vs1, d1, ds1, p1, q1, rfl, rfl, rfl, h1, r1⟩ := trodAll_cons r0
    obtain ⟨v2, vs2, d2, ds2, p2, q2, rfl, rfl, rfl, h2, r2⟩ := trodAll_cons r1
    obtain ⟨rfl, rfl, rfl⟩ := trodAll_nil r2
    obtain rfl : args = #[v0, v1, v2] := by cases args; simp_all
    have wt0 : ∀ n ∈ d0.weights Try.prog 36, n ≤ reachBytes := fun n hn => by
      have := List.all_eq_true.1 hwt n (DataW.weights_mem_each (j := 0) (t := 36) (d := d0) rfl rfl n hn)
      simpa using this
    have lt0 : ∀ x ∈ p0, x.block < W.heap.size := fun x hx => hlt x (by simp [hx])
    obtain ⟨q0_, l0_, A0, n0, c0, xs0, rfl, wl0, hi0, hc0, hr0, w0⟩ := open_beat (hval 0 36 v0 rfl rfl) h0 lt0 wt0
    obtain ⟨a1, rfl, rfl, rfl, w1⟩ := open_int Try.underlying3 (hval 1 3 v1 rfl rfl) h1
    obtain ⟨a2, rfl, rfl, rfl, w2⟩ := open_int Try.underlying3 (hval 2 3 v2 rfl rfl) h2
    exact walk W q0_ l0_ wl0 A0 n0 c0 xs0 hi0 hc0 hr0 w0 a1 w1 a2 w2

theorem over : Rows.beatFadesRow.holds Try.pinned (OpenSpec.ofChange Rows.beatFadesSpec) :=
  OpenClaim.holds_of_wide 7 Try.f7 rfl rfl rfl rfl rfl rfl rfl ⟨rfl, rfl, rfl, rfl, rfl⟩ rfl rfl rfl rfl rfl (by kernel_rfl) Try.func7 (by kernel_rfl)
    (of_decide_eq_true (by kernel_rfl)) (by unfold Func.isWrapper; first | (rw [if_pos (by decide +kernel)]; kernel_rfl) | (rw [if_neg (by decide +kernel)]; exact ⟨rfl, rfl⟩))
    (fun os started H enc _ => lifted os started H enc)

theorem proved : Rows.BeatFadesSaid := over
#print axioms proved
end Go.Proofs.Ytidmoacjgbjlnaa.beatFades
