/- Contracts of package programme, the document's, and the law package's own. -/
import Derived.Test.YthfipnccjnekfaaTot
namespace Go.Proofs.Ythfipnccjnekfaa
open Go.RowKit
set_option linter.unusedVariables false
attribute [local go_sem] cell_set_ite Near.cell Near.frozen

/-- What is wrong with a programme (rate, volume, set). -/
def ckV (r v s : Int) : Int := if knB s = false then 11 else if r < 5 ∨ 1000 < r ∨ 30000 < r * s then 9 else if v < 1 ∨ 5000 < v then 10 else 0
def ndV (r v s : Int) : Int := if ckV r v s = 0 then v * s else 0
def tmV (r v s : Int) : Int := if ckV r v s = 0 then -(-v * 360000 / r) else 0
theorem ck_ways (r v s : Int) : (knB s = false ∧ ckV r v s = 11) ∨ (knB s = true ∧ r < 5 ∧ ckV r v s = 9) ∨ (knB s = true ∧ 5 ≤ r ∧ 1000 < r ∧ ckV r v s = 9) ∨ (knB s = true ∧ 5 ≤ r ∧ r ≤ 1000 ∧ 30000 < r * s ∧ ckV r v s = 9) ∨
    (knB s = true ∧ 5 ≤ r ∧ r ≤ 1000 ∧ r * s ≤ 30000 ∧ v < 1 ∧ ckV r v s = 10) ∨ (knB s = true ∧ 5 ≤ r ∧ r ≤ 1000 ∧ r * s ≤ 30000 ∧ 1 ≤ v ∧ 5000 < v ∧ ckV r v s = 10) ∨ (knB s = true ∧ 5 ≤ r ∧ r ≤ 1000 ∧ r * s ≤ 30000 ∧ 1 ≤ v ∧ v ≤ 5000 ∧ ckV r v s = 0) := by
  unfold ckV
  cases hk : knB s
  · simp
  · generalize r * s = q
    rw [if_neg (by simp)]
    by_cases h1 : r < 5 ∨ 1000 < r ∨ 30000 < q
    · rw [if_pos h1]; simp; omega
    · rw [if_neg h1]
      by_cases h2 : v < 1 ∨ 5000 < v
      · rw [if_pos h2]; simp; omega
      · rw [if_neg h2]; simp; omega
theorem ck_ok {r v s : Int} (h : ckV r v s = 0) : Kn s ∧ 5 ≤ r ∧ r ≤ 1000 ∧ r * s ≤ 30000 ∧ 1 ≤ v ∧ v ≤ 5000 := by
  rcases ck_ways r v s with ⟨_, e⟩ | ⟨_, _, e⟩ | ⟨_, _, _, e⟩ | ⟨_, _, _, _, e⟩ | ⟨_, _, _, _, _, e⟩ | ⟨_, _, _, _, _, _, e⟩ | ⟨h1, h2, h3, h4, h5, h6, e⟩
  all_goals first
    | (rw [h] at e; omega)
    | exact ⟨kn_of h1, h2, h3, h4, h5, h6⟩
theorem ck_of {r v s : Int} (hk : Kn s) (h2 : 5 ≤ r) (h3 : r ≤ 1000) (h4 : r * s ≤ 30000) (h5 : 1 ≤ v) (h6 : v ≤ 5000) : ckV r v s = 0 := by
  have : knB s = true := by simpa [knB, Kn] using hk
  unfold ckV
  rw [if_neg (by rw [this]; simp), if_neg (by omega), if_neg (by omega)]
theorem ck_bd (r v s : Int) : 0 ≤ ckV r v s ∧ ckV r v s ≤ 11 := by unfold ckV; split <;> (try split) <;> (try split) <;> omega

theorem pr_check (r v s : Int) (w : World) : Calls Try.prog 26 #[.agg #[.int .i64 r, .int .i64 v, .int .i64 s]] w fun e w' => e = .returned (.int .i64 (ckV r v s)) ∧ Below w.heap.size w w' := by
  have HK := Lib.hid (fun w => ds_knB s w)
  rcases ck_ways r v s with ⟨k, e⟩ | ⟨k, _, e⟩ | ⟨k, _, _, e⟩ | ⟨k, _, _, _, e⟩ | ⟨k, _, _, _, _, e⟩ | ⟨k, _, _, _, _, _, e⟩ | ⟨k, _, _, _, _, _, e⟩
  all_goals rw [e]
  all_goals rw [k] at HK
  all_goals (try (have ⟨q0, q1⟩ := hour_in (r := r) (kn_of k) (by omega) (by omega)))
  all_goals clear e k
  all_goals go_enter Try.func26, Try.ntmps26
  all_goals go_wp2_with (go_at_call 42; refine (HK.out _).mono ?_; rintro e w' ⟨rfl, rfl⟩)
  all_goals go_ret
  all_goals exact ⟨rfl, by (repeat (first | (with_reducible exact Below.refl _ _) | (with_reducible assumption) | (with_reducible refine Near.up _ ?_) | (with_reducible refine Below.drew ?_) | (with_reducible refine below_alloc_on ?_ _) | (with_reducible refine below_set_on ?_ (by first | (simp; done) | (simp; omega) | omega) _)))⟩
theorem rp_check (r v s : Int) (w : World) : Calls Try.prog 27 #[.agg #[.int .i64 r, .int .i64 v, .int .i64 s]] w fun e w' => e = .returned (.int .i64 (ckV r v s)) ∧ Below w.heap.size w w' := by
  have HK := Lib.hid (fun w => ref9_known s w)
  rcases ck_ways r v s with ⟨k, e⟩ | ⟨k, _, e⟩ | ⟨k, _, _, e⟩ | ⟨k, _, _, _, e⟩ | ⟨k, _, _, _, _, e⟩ | ⟨k, _, _, _, _, _, e⟩ | ⟨k, _, _, _, _, _, e⟩
  all_goals rw [e]
  all_goals rw [k] at HK
  all_goals (try (have ⟨q0, q1⟩ := hour_in (r := r) (kn_of k) (by omega) (by omega)))
  all_goals clear e k
  all_goals go_enter Try.func27, Try.ntmps27
  all_goals go_wp2_with (go_at_call 43; refine (HK.out _).mono ?_; rintro e w' ⟨rfl, rfl⟩)
  all_goals go_ret
  all_goals exact ⟨rfl, by (repeat (first | (with_reducible exact Below.refl _ _) | (with_reducible assumption) | (with_reducible refine Near.up _ ?_) | (with_reducible refine Below.drew ?_) | (with_reducible refine below_alloc_on ?_ _) | (with_reducible refine below_set_on ?_ (by first | (simp; done) | (simp; omega) | omega) _)))⟩

theorem floor_is {v r : Int} (r0 : 5 ≤ r) (r1 : r ≤ 1000) (v0 : 1 ≤ v) (v1 : v ≤ 5000) : flV (-v * 360000) r = -v * 360000 / r ∧ nzB r = true ∧ -1800000000 ≤ -v * 360000 / r ∧ -v * 360000 / r ≤ 0 := by
  refine ⟨flV_small (by omega) (by omega) (by omega) (by omega), nzB_small (by omega) (by omega), ?_, ?_⟩
  · rw [Int.le_ediv_iff_mul_le (by omega)]
    have : (-1800000000 : Int) * r ≤ -1800000000 * 5 := by omega
    omega
  · exact Int.ediv_le_of_le_mul (by omega) (by omega)
theorem drops_is {v s : Int} (hs : Kn s) : -(-(v * 1000) * s / 1000) = v * s := by
  rcases hs with rfl | rfl | rfl | rfl <;> omega
theorem drops_is2 {v s : Int} (hs : Kn s) : v * 1000 * -s / 1000 = -(v * s) := by
  rcases hs with rfl | rfl | rfl | rfl <;> omega
theorem nd_bd {v s : Int} (hs : Kn s) (v0 : 1 ≤ v) (v1 : v ≤ 5000) : 10 ≤ v * s ∧ v * s ≤ 300000 := by
  rcases hs with rfl | rfl | rfl | rfl <;> omega

theorem pr_need (r v s : Int) (w : World) : Calls Try.prog 22 #[.agg #[.int .i64 r, .int .i64 v, .int .i64 s]] w fun e w' => e = .returned (.tuple #[.int .i64 (ndV r v s), .int .i64 (ckV r v s)]) ∧ Below w.heap.size w w' := by
  have A : Below w.heap.size w w := Below.refl _ _
  have HC := Lib.hid (fun w => pr_check r v s w)
  unfold ndV
  by_cases h : ckV r v s = 0
  · rw [if_pos h]
    rw [h] at HC ⊢
    obtain ⟨hk, r0, r1, _, v0, v1⟩ := ck_ok h
    have HD := Lib.hid (fun w => ds_drops w (v * 1000) s hk (by omega) (by omega) w (At.refl w))
    rw [drops_is hk] at HD
    clear h hk
    go_enter Try.func22, Try.ntmps22
    go_wp2_with (fail)
    refine (HC.out _).mono ?_
    rintro e w1 ⟨rfl, hb⟩
    replace A : Below w.heap.size w w1 := by (refine below_call ?_ hb; (repeat (first | (with_reducible exact Below.refl _ _) | (with_reducible assumption) | (with_reducible refine Near.up _ ?_) | (with_reducible refine Below.drew ?_) | (with_reducible refine below_alloc_on ?_ _) | (with_reducible refine below_set_on ?_ (by first | (simp; done) | (simp; omega) | omega) _))))
    replace P := Box.below (g := w.heap.size) (by (repeat (first | (with_reducible assumption) | (with_reducible exact box_new _ _ _) | ((with_reducible apply box_at); (first | (with_reducible rfl) | (simp <;> omega))) | (with_reducible apply Box.drew) | (with_reducible apply Box.drewN) | (with_reducible apply Box.near) | (with_reducible apply Box.alloc) | ((with_reducible apply box_far); (first | assumption | omega | (simp <;> omega))) | (with_reducible apply Box.set) | (simp only [List.size_toArray, List.length_cons, List.length_nil, Array.size_setIfInBounds] <;> omega)))) hb
    (try simp only [List.setIfInBounds_toArray, List.set_cons_zero, List.set_cons_succ] at P)
    (try clear cP fP)
    clear hb
    have z_w1 : w.heap.size ≤ w1.heap.size := A.size
    obtain ⟨lP_w1, cP, fP⟩ := id P
    go_wp2_with (fail)
    refine (HD.out _).mono ?_
    rintro e w2 ⟨rfl, hb⟩
    replace A : Below w.heap.size w w2 := by (refine below_call ?_ hb; (repeat (first | (with_reducible exact Below.refl _ _) | (with_reducible assumption) | (with_reducible refine Near.up _ ?_) | (with_reducible refine Below.drew ?_) | (with_reducible refine below_alloc_on ?_ _) | (with_reducible refine below_set_on ?_ (by first | (simp; done) | (simp; omega) | omega) _))))
    clear hb
    have z_w2 : w.heap.size ≤ w2.heap.size := A.size
    go_wp2
    all_goals go_ret2
    all_goals exact ⟨rfl, A⟩
  · rw [if_neg h]
    have t1 : (ckV r v s == 0) = false := by simpa using h
    have t2 : (ckV r v s != 0) = true := by simpa using h
    clear h
    go_enter Try.func22, Try.ntmps22
    go_wp2_with (fail)
    refine (HC.out _).mono ?_
    rintro e w1 ⟨rfl, hb⟩
    replace A : Below w.heap.size w w1 := by (refine below_call ?_ hb; (repeat (first | (with_reducible exact Below.refl _ _) | (with_reducible assumption) | (with_reducible refine Near.up _ ?_) | (with_reducible refine Below.drew ?_) | (with_reducible refine below_alloc_on ?_ _) | (with_reducible refine below_set_on ?_ (by first | (simp; done) | (simp; omega) | omega) _))))
    replace P := Box.below (g := w.heap.size) (by (repeat (first | (with_reducible assumption) | (with_reducible exact box_new _ _ _) | ((with_reducible apply box_at); (first | (with_reducible rfl) | (simp <;> omega))) | (with_reducible apply Box.drew) | (with_reducible apply Box.drewN) | (with_reducible apply Box.near) | (with_reducible apply Box.alloc) | ((with_reducible apply box_far); (first | assumption | omega | (simp <;> omega))) | (with_reducible apply Box.set) | (simp only [List.size_toArray, List.length_cons, List.length_nil, Array.size_setIfInBounds] <;> omega)))) hb
    (try simp only [List.setIfInBounds_toArray, List.set_cons_zero, List.set_cons_succ] at P)
    (try clear cP fP)
    clear hb
    have z_w1 : w.heap.size ≤ w1.heap.size := A.size
    obtain ⟨lP_w1, cP, fP⟩ := id P
    go_wp2
    all_goals go_ret2
    all_goals exact ⟨rfl, A⟩
theorem pr_time (r v s : Int) (w : World) : Calls Try.prog 24 #[.agg #[.int .i64 r, .int .i64 v, .int .i64 s]] w fun e w' => e = .returned (.tuple #[.int .i64 (tmV r v s), .int .i64 (ckV r v s)]) ∧ Below w.heap.size w w' := by
  have A : Below w.heap.size w w := Below.refl _ _
  have HC := Lib.hid (fun w => pr_check r v s w)
  unfold tmV
  by_cases h : ckV r v s = 0
  · rw [if_pos h]
    rw [h] at HC ⊢
    obtain ⟨hk, r0, r1, _, v0, v1⟩ := ck_ok h
    have HD := Lib.hid (fun w => l_floor (-v * 360000) r w w (At.refl w))
    obtain ⟨e1, e2, f0, f1⟩ := floor_is r0 r1 v0 v1
    rw [e1, e2] at HD
    generalize -v * 360000 / r = Q at *
    clear h hk e1 e2
    go_enter Try.func24, Try.ntmps24
    go_wp2_with (fail)
    refine (HC.out _).mono ?_
    rintro e w1 ⟨rfl, hb⟩
    replace A : Below w.heap.size w w1 := by (refine below_call ?_ hb; (repeat (first | (with_reducible exact Below.refl _ _) | (with_reducible assumption) | (with_reducible refine Near.up _ ?_) | (with_reducible refine Below.drew ?_) | (with_reducible refine below_alloc_on ?_ _) | (with_reducible refine below_set_on ?_ (by first | (simp; done) | (simp; omega) | omega) _))))
    replace P := Box.below (g := w.heap.size) (by (repeat (first | (with_reducible assumption) | (with_reducible exact box_new _ _ _) | ((with_reducible apply box_at); (first | (with_reducible rfl) | (simp <;> omega))) | (with_reducible apply Box.drew) | (with_reducible apply Box.drewN) | (with_reducible apply Box.near) | (with_reducible apply Box.alloc) | ((with_reducible apply box_far); (first | assumption | omega | (simp <;> omega))) | (with_reducible apply Box.set) | (simp only [List.size_toArray, List.length_cons, List.length_nil, Array.size_setIfInBounds] <;> omega)))) hb
    (try simp only [List.setIfInBounds_toArray, List.set_cons_zero, List.set_cons_succ] at P)
    (try clear cP fP)
    clear hb
    have z_w1 : w.heap.size ≤ w1.heap.size := A.size
    obtain ⟨lP_w1, cP, fP⟩ := id P
    go_wp2_with (fail)
    refine (HD.out _).mono ?_
    rintro e w2 ⟨rfl, hb⟩
    replace A : Below w.heap.size w w2 := by (refine below_call ?_ hb; (repeat (first | (with_reducible exact Below.refl _ _) | (with_reducible assumption) | (with_reducible refine Near.up _ ?_) | (with_reducible refine Below.drew ?_) | (with_reducible refine below_alloc_on ?_ _) | (with_reducible refine below_set_on ?_ (by first | (simp; done) | (simp; omega) | omega) _))))
    clear hb
    have z_w2 : w.heap.size ≤ w2.heap.size := A.size
    go_wp2
    all_goals go_ret2
    all_goals exact ⟨rfl, A⟩
  · rw [if_neg h]
    have t1 : (ckV r v s == 0) = false := by simpa using h
    have t2 : (ckV r v s != 0) = true := by simpa using h
    clear h
    go_enter Try.func24, Try.ntmps24
    go_wp2_with (fail)
    refine (HC.out _).mono ?_
    rintro e w1 ⟨rfl, hb⟩
    replace A : Below w.heap.size w w1 := by (refine below_call ?_ hb; (repeat (first | (with_reducible exact Below.refl _ _) | (with_reducible assumption) | (with_reducible refine Near.up _ ?_) | (with_reducible refine Below.drew ?_) | (with_reducible refine below_alloc_on ?_ _) | (with_reducible refine below_set_on ?_ (by first | (simp; done) | (simp; omega) | omega) _))))
    replace P := Box.below (g := w.heap.size) (by (repeat (first | (with_reducible assumption) | (with_reducible exact box_new _ _ _) | ((with_reducible apply box_at); (first | (with_reducible rfl) | (simp <;> omega))) | (with_reducible apply Box.drew) | (with_reducible apply Box.drewN) | (with_reducible apply Box.near) | (with_reducible apply Box.alloc) | ((with_reducible apply box_far); (first | assumption | omega | (simp <;> omega))) | (with_reducible apply Box.set) | (simp only [List.size_toArray, List.length_cons, List.length_nil, Array.size_setIfInBounds] <;> omega)))) hb
    (try simp only [List.setIfInBounds_toArray, List.set_cons_zero, List.set_cons_succ] at P)
    (try clear cP fP)
    clear hb
    have z_w1 : w.heap.size ≤ w1.heap.size := A.size
    obtain ⟨lP_w1, cP, fP⟩ := id P
    go_wp2
    all_goals go_ret2
    all_goals exact ⟨rfl, A⟩
theorem r9_drops (v s : Int) (hk : Kn s) (v0 : 1 ≤ v) (v1 : v ≤ 5000) (w : World) : Calls Try.prog 39 #[.int .i64 (v * 1000), .int .i64 s] w fun e w' => e = .returned (.tuple #[.int .i64 (v * s), .bool true]) ∧ Below w.heap.size w w' := by
  have A : Below w.heap.size w w := Below.refl _ _
  have HK := Lib.hid (fun w => ref9_known s w)
  rw [show knB s = true by simpa [knB, Kn] using hk] at HK
  have HM := Lib.hid (fun w => lr2_muldiv (v * 1000) (-s) 1000 w w (At.refl w))
  have ⟨e1, e2⟩ := mq_small (a := v * 1000) (b := -s) (c := 1000) (by omega) (by omega) (by rcases hk with rfl | rfl | rfl | rfl <;> omega) (by rcases hk with rfl | rfl | rfl | rfl <;> omega) (by omega) (by omega) (by rw [drops_is2 hk]; have := nd_bd hk v0 v1; omega) (by rw [drops_is2 hk]; have := nd_bd hk v0 v1; omega)
  rw [e1, e2, drops_is2 hk] at HM
  have ⟨n0, n1⟩ := nd_bd hk v0 v1
  have s0 : 10 ≤ s := by rcases hk with rfl | rfl | rfl | rfl <;> omega
  have s1 : s ≤ 60 := by rcases hk with rfl | rfl | rfl | rfl <;> omega
  clear e1 e2 hk
  generalize v * s = V at *
  go_enter Try.func39, Try.ntmps39
  go_wp2_with ((go_at_call 43; refine (HK.out _).mono ?_; rintro e w' ⟨rfl, rfl⟩))
  refine (HM.out _).mono ?_
  rintro e w1 ⟨rfl, hb⟩
  replace A : Below w.heap.size w w1 := by (refine below_call ?_ hb; (repeat (first | (with_reducible exact Below.refl _ _) | (with_reducible assumption) | (with_reducible refine Near.up _ ?_) | (with_reducible refine Below.drew ?_) | (with_reducible refine below_alloc_on ?_ _) | (with_reducible refine below_set_on ?_ (by first | (simp; done) | (simp; omega) | omega) _))))
  clear hb
  have z_w1 : w.heap.size ≤ w1.heap.size := A.size
  go_wp2
  all_goals go_ret2
  all_goals exact ⟨rfl, A⟩
theorem rp_need (r v s : Int) (w : World) : Calls Try.prog 23 #[.agg #[.int .i64 r, .int .i64 v, .int .i64 s]] w fun e w' => e = .returned (.tuple #[.int .i64 (ndV r v s), .int .i64 (ckV r v s)]) ∧ Below w.heap.size w w' := by
  have A : Below w.heap.size w w := Below.refl _ _
  have HC := Lib.hid (fun w => rp_check r v s w)
  unfold ndV
  by_cases h : ckV r v s = 0
  · rw [if_pos h]
    rw [h] at HC ⊢
    obtain ⟨hk, r0, r1, _, v0, v1⟩ := ck_ok h
    have HD := Lib.hid (fun w => r9_drops v s hk v0 v1 w)
    rw [Int.mul_comm v 1000] at HD
    clear h hk
    go_enter Try.func23, Try.ntmps23
    go_wp2_with (fail)
    refine (HC.out _).mono ?_
    rintro e w1 ⟨rfl, hb⟩
    replace A : Below w.heap.size w w1 := by (refine below_call ?_ hb; (repeat (first | (with_reducible exact Below.refl _ _) | (with_reducible assumption) | (with_reducible refine Near.up _ ?_) | (with_reducible refine Below.drew ?_) | (with_reducible refine below_alloc_on ?_ _) | (with_reducible refine below_set_on ?_ (by first | (simp; done) | (simp; omega) | omega) _))))
    replace P := Box.below (g := w.heap.size) (by (repeat (first | (with_reducible assumption) | (with_reducible exact box_new _ _ _) | ((with_reducible apply box_at); (first | (with_reducible rfl) | (simp <;> omega))) | (with_reducible apply Box.drew) | (with_reducible apply Box.drewN) | (with_reducible apply Box.near) | (with_reducible apply Box.alloc) | ((with_reducible apply box_far); (first | assumption | omega | (simp <;> omega))) | (with_reducible apply Box.set) | (simp only [List.size_toArray, List.length_cons, List.length_nil, Array.size_setIfInBounds] <;> omega)))) hb
    (try simp only [List.setIfInBounds_toArray, List.set_cons_zero, List.set_cons_succ] at P)
    (try clear cP fP)
    clear hb
    have z_w1 : w.heap.size ≤ w1.heap.size := A.size
    obtain ⟨lP_w1, cP, fP⟩ := id P
    go_wp2_with (fail)
    refine (HD.out _).mono ?_
    rintro e w2 ⟨rfl, hb⟩
    replace A : Below w.heap.size w w2 := by (refine below_call ?_ hb; (repeat (first | (with_reducible exact Below.refl _ _) | (with_reducible assumption) | (with_reducible refine Near.up _ ?_) | (with_reducible refine Below.drew ?_) | (with_reducible refine below_alloc_on ?_ _) | (with_reducible refine below_set_on ?_ (by first | (simp; done) | (simp; omega) | omega) _))))
    clear hb
    have z_w2 : w.heap.size ≤ w2.heap.size := A.size
    go_wp2
    all_goals go_ret2
    all_goals exact ⟨rfl, A⟩
  · rw [if_neg h]
    have t1 : (ckV r v s == 0) = false := by simpa using h
    have t2 : (ckV r v s != 0) = true := by simpa using h
    clear h
    go_enter Try.func23, Try.ntmps23
    go_wp2_with (fail)
    refine (HC.out _).mono ?_
    rintro e w1 ⟨rfl, hb⟩
    replace A : Below w.heap.size w w1 := by (refine below_call ?_ hb; (repeat (first | (with_reducible exact Below.refl _ _) | (with_reducible assumption) | (with_reducible refine Near.up _ ?_) | (with_reducible refine Below.drew ?_) | (with_reducible refine below_alloc_on ?_ _) | (with_reducible refine below_set_on ?_ (by first | (simp; done) | (simp; omega) | omega) _))))
    replace P := Box.below (g := w.heap.size) (by (repeat (first | (with_reducible assumption) | (with_reducible exact box_new _ _ _) | ((with_reducible apply box_at); (first | (with_reducible rfl) | (simp <;> omega))) | (with_reducible apply Box.drew) | (with_reducible apply Box.drewN) | (with_reducible apply Box.near) | (with_reducible apply Box.alloc) | ((with_reducible apply box_far); (first | assumption | omega | (simp <;> omega))) | (with_reducible apply Box.set) | (simp only [List.size_toArray, List.length_cons, List.length_nil, Array.size_setIfInBounds] <;> omega)))) hb
    (try simp only [List.setIfInBounds_toArray, List.set_cons_zero, List.set_cons_succ] at P)
    (try clear cP fP)
    clear hb
    have z_w1 : w.heap.size ≤ w1.heap.size := A.size
    obtain ⟨lP_w1, cP, fP⟩ := id P
    go_wp2
    all_goals go_ret2
    all_goals exact ⟨rfl, A⟩
theorem rp_time (r v s : Int) (w : World) : Calls Try.prog 25 #[.agg #[.int .i64 r, .int .i64 v, .int .i64 s]] w fun e w' => e = .returned (.tuple #[.int .i64 (tmV r v s), .int .i64 (ckV r v s)]) ∧ Below w.heap.size w w' := by
  have A : Below w.heap.size w w := Below.refl _ _
  have HC := Lib.hid (fun w => rp_check r v s w)
  unfold tmV
  by_cases h : ckV r v s = 0
  · rw [if_pos h]
    rw [h] at HC ⊢
    obtain ⟨hk, r0, r1, _, v0, v1⟩ := ck_ok h
    have HD := Lib.hid (fun w => ref2_floor (-v * 360000) r w)
    obtain ⟨e1, e2, f0, f1⟩ := floor_is r0 r1 v0 v1
    rw [e1, e2] at HD
    generalize -v * 360000 / r = Q at *
    clear h hk e1 e2
    go_enter Try.func25, Try.ntmps25
    go_wp2_with (fail)
    refine (HC.out _).mono ?_
    rintro e w1 ⟨rfl, hb⟩
    replace A : Below w.heap.size w w1 := by (refine below_call ?_ hb; (repeat (first | (with_reducible exact Below.refl _ _) | (with_reducible assumption) | (with_reducible refine Near.up _ ?_) | (with_reducible refine Below.drew ?_) | (with_reducible refine below_alloc_on ?_ _) | (with_reducible refine below_set_on ?_ (by first | (simp; done) | (simp; omega) | omega) _))))
    replace P := Box.below (g := w.heap.size) (by (repeat (first | (with_reducible assumption) | (with_reducible exact box_new _ _ _) | ((with_reducible apply box_at); (first | (with_reducible rfl) | (simp <;> omega))) | (with_reducible apply Box.drew) | (with_reducible apply Box.drewN) | (with_reducible apply Box.near) | (with_reducible apply Box.alloc) | ((with_reducible apply box_far); (first | assumption | omega | (simp <;> omega))) | (with_reducible apply Box.set) | (simp only [List.size_toArray, List.length_cons, List.length_nil, Array.size_setIfInBounds] <;> omega)))) hb
    (try simp only [List.setIfInBounds_toArray, List.set_cons_zero, List.set_cons_succ] at P)
    (try clear cP fP)
    clear hb
    have z_w1 : w.heap.size ≤ w1.heap.size := A.size
    obtain ⟨lP_w1, cP, fP⟩ := id P
    go_wp2_with (go_at_call 41; refine (HD.out _).mono ?_; rintro e w' ⟨rfl, rfl⟩)
    all_goals go_ret2
    all_goals exact ⟨rfl, A⟩
  · rw [if_neg h]
    have t1 : (ckV r v s == 0) = false := by simpa using h
    have t2 : (ckV r v s != 0) = true := by simpa using h
    clear h
    go_enter Try.func25, Try.ntmps25
    go_wp2_with (fail)
    refine (HC.out _).mono ?_
    rintro e w1 ⟨rfl, hb⟩
    replace A : Below w.heap.size w w1 := by (refine below_call ?_ hb; (repeat (first | (with_reducible exact Below.refl _ _) | (with_reducible assumption) | (with_reducible refine Near.up _ ?_) | (with_reducible refine Below.drew ?_) | (with_reducible refine below_alloc_on ?_ _) | (with_reducible refine below_set_on ?_ (by first | (simp; done) | (simp; omega) | omega) _))))
    replace P := Box.below (g := w.heap.size) (by (repeat (first | (with_reducible assumption) | (with_reducible exact box_new _ _ _) | ((with_reducible apply box_at); (first | (with_reducible rfl) | (simp <;> omega))) | (with_reducible apply Box.drew) | (with_reducible apply Box.drewN) | (with_reducible apply Box.near) | (with_reducible apply Box.alloc) | ((with_reducible apply box_far); (first | assumption | omega | (simp <;> omega))) | (with_reducible apply Box.set) | (simp only [List.size_toArray, List.length_cons, List.length_nil, Array.size_setIfInBounds] <;> omega)))) hb
    (try simp only [List.setIfInBounds_toArray, List.set_cons_zero, List.set_cons_succ] at P)
    (try clear cP fP)
    clear hb
    have z_w1 : w.heap.size ≤ w1.heap.size := A.size
    obtain ⟨lP_w1, cP, fP⟩ := id P
    go_wp2
    all_goals go_ret2
    all_goals exact ⟨rfl, A⟩
theorem law36_awake (w : World) : Calls Try.prog 28 #[] w fun e w' => e = .returned (.bool true) ∧ Below w.heap.size w w' := by
  have e1 : ndV 60 100 15 = 1500 := by decide +kernel
  have e2 : ckV 60 100 15 = 0 := by decide +kernel
  have e3 : tmV 60 100 15 = 600000 := by decide +kernel
  have e4 : ckV 1000 1 60 = 9 := by decide +kernel
  have e5 : ckV 4 0 9 = 11 := by decide +kernel
  have e6 : ckV 5 5001 10 = 10 := by decide +kernel
  have A : Below w.heap.size w w := Below.refl _ _
  go_enter Try.func28, Try.ntmps28
  go_wp2_with (fail)
  refine (pr_need _ _ _ _).mono ?_
  rintro e w1 ⟨rfl, hb⟩
  replace A : Below w.heap.size w w1 := by (refine below_call ?_ hb; (repeat (first | (with_reducible exact Below.refl _ _) | (with_reducible assumption) | (with_reducible refine Near.up _ ?_) | (with_reducible refine Below.drew ?_) | (with_reducible refine below_alloc_on ?_ _) | (with_reducible refine below_set_on ?_ (by first | (simp; done) | (simp; omega) | omega) _))))
  replace B := Box.below (g := w.heap.size) (by (repeat (first | (with_reducible assumption) | (with_reducible exact box_new _ _ _) | ((with_reducible apply box_at); (first | (with_reducible rfl) | (simp <;> omega))) | (with_reducible apply Box.drew) | (with_reducible apply Box.drewN) | (with_reducible apply Box.near) | (with_reducible apply Box.alloc) | ((with_reducible apply box_far); (first | assumption | omega | (simp <;> omega))) | (with_reducible apply Box.set) | (simp only [List.size_toArray, List.length_cons, List.length_nil, Array.size_setIfInBounds] <;> omega)))) hb
  (try simp only [List.setIfInBounds_toArray, List.set_cons_zero, List.set_cons_succ] at B)
  (try clear cB fB)
  clear hb
  have z_w1 : w.heap.size ≤ w1.heap.size := A.size
  obtain ⟨lB_w1, cB, fB⟩ := id B
  go_wp2_with (fail)
  refine (pr_time _ _ _ _).mono ?_
  rintro e w2 ⟨rfl, hb⟩
  replace A : Below w.heap.size w w2 := by (refine below_call ?_ hb; (repeat (first | (with_reducible exact Below.refl _ _) | (with_reducible assumption) | (with_reducible refine Near.up _ ?_) | (with_reducible refine Below.drew ?_) | (with_reducible refine below_alloc_on ?_ _) | (with_reducible refine below_set_on ?_ (by first | (simp; done) | (simp; omega) | omega) _))))
  clear hb
  have z_w2 : w.heap.size ≤ w2.heap.size := A.size
  go_wp2_with (fail)
  refine (pr_check _ _ _ _).mono ?_
  rintro e w3 ⟨rfl, hb⟩
  replace A : Below w.heap.size w w3 := by (refine below_call ?_ hb; (repeat (first | (with_reducible exact Below.refl _ _) | (with_reducible assumption) | (with_reducible refine Near.up _ ?_) | (with_reducible refine Below.drew ?_) | (with_reducible refine below_alloc_on ?_ _) | (with_reducible refine below_set_on ?_ (by first | (simp; done) | (simp; omega) | omega) _))))
  clear hb
  have z_w3 : w.heap.size ≤ w3.heap.size := A.size
  go_wp2_with (fail)
  refine (pr_check _ _ _ _).mono ?_
  rintro e w4 ⟨rfl, hb⟩
  replace A : Below w.heap.size w w4 := by (refine below_call ?_ hb; (repeat (first | (with_reducible exact Below.refl _ _) | (with_reducible assumption) | (with_reducible refine Near.up _ ?_) | (with_reducible refine Below.drew ?_) | (with_reducible refine below_alloc_on ?_ _) | (with_reducible refine below_set_on ?_ (by first | (simp; done) | (simp; omega) | omega) _))))
  clear hb
  have z_w4 : w.heap.size ≤ w4.heap.size := A.size
  go_wp2_with (fail)
  refine (pr_check _ _ _ _).mono ?_
  rintro e w5 ⟨rfl, hb⟩
  replace A : Below w.heap.size w w5 := by (refine below_call ?_ hb; (repeat (first | (with_reducible exact Below.refl _ _) | (with_reducible assumption) | (with_reducible refine Near.up _ ?_) | (with_reducible refine Below.drew ?_) | (with_reducible refine below_alloc_on ?_ _) | (with_reducible refine below_set_on ?_ (by first | (simp; done) | (simp; omega) | omega) _))))
  clear hb
  have z_w5 : w.heap.size ≤ w5.heap.size := A.size
  go_wp2
  all_goals go_ret
  all_goals exact ⟨rfl, A⟩
end Go.Proofs.Ythfipnccjnekfaa
