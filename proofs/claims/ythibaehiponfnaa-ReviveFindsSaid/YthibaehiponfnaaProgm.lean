/- Contracts of package programme, the document's, and the law package's own. -/
import Derived.Test.YthibaehiponfnaaTot
namespace Go.Proofs.Ythibaehiponfnaa
set_option maxRecDepth 100000
open Go.RowKit
set_option linter.unusedVariables false
set_option linter.unusedSimpArgs false
attribute [local go_sem] cell_set_ite Near.cell Near.frozen

/-- What is wrong with a programme (rate, volume, set). -/
def ckV (r v s : Int) : Int := if knB s = false then 11 else if r < 5 ∨ 1000 < r ∨ 30000 < r * s then 9 else if v < 1 ∨ 5000 < v then 10 else 0
def ndV (r v s : Int) : Int := if ckV r v s = 0 then v * s else 0
def tmV (r v s : Int) : Int := if ckV r v s = 0 then -(-v * 360000 / r) else 0
theorem ck_ways (r v s : Int) : (knB s = false ∧ ckV r v s = 11) ∨ (knB s = true ∧ r < 5 ∧ ckV r v s = 9) ∨ (knB s = true ∧ 5 ≤ r ∧ 1000 < r ∧ ckV r v s = 9) ∨ (knB s = true ∧ 5 ≤ r ∧ r ≤ 1000 ∧ 30000 < r * s ∧ ckV r v s = 9) ∨
    (knB s = true ∧ 5 ≤ r ∧ r ≤ 1000 ∧ r * s ≤ 30000 ∧ v < 1 ∧ ckV r v s = 10) ∨ (knB s = true ∧ 5 ≤ r ∧ r ≤ 1000 ∧ r * s ≤ 30000 ∧ 1 ≤ v ∧ 5000 < v ∧ ckV r v s = 10) ∨ (knB s = true ∧ 5 ≤ r ∧ r ≤ 1000 ∧ r * s ≤ 30000 ∧ 1 ≤ v ∧ v ≤ 5000 ∧ ckV r v s = 0) := by
  unfold ckV
  cases hk : knB s
  · simp
  · generalize r * s = q
    rw [if_neg (by simp)]
    by_cases h1 : r < 5 ∨ 1000 < r ∨ 30000 < q
    · rw [if_pos h1]; simp; omega
    · rw [if_neg h1]
      by_cases h2 : v < 1 ∨ 5000 < v
      · rw [if_pos h2]; simp; omega
      · rw [if_neg h2]; simp; omega
theorem ck_ok {r v s : Int} (h : ckV r v s = 0) : Kn s ∧ 5 ≤ r ∧ r ≤ 1000 ∧ r * s ≤ 30000 ∧ 1 ≤ v ∧ v ≤ 5000 := by
  rcases ck_ways r v s with ⟨_, e⟩ | ⟨_, _, e⟩ | ⟨_, _, _, e⟩ | ⟨_, _, _, _, e⟩ | ⟨_, _, _, _, _, e⟩ | ⟨_, _, _, _, _, _, e⟩ | ⟨h1, h2, h3, h4, h5, h6, e⟩
  all_goals first
    | (rw [h] at e; omega)
    | exact ⟨kn_of h1, h2, h3, h4, h5, h6⟩
theorem ck_of {r v s : Int} (hk : Kn s) (h2 : 5 ≤ r) (h3 : r ≤ 1000) (h4 : r * s ≤ 30000) (h5 : 1 ≤ v) (h6 : v ≤ 5000) : ckV r v s = 0 := by
  have : knB s = true := by simpa [knB, Kn] using hk
  unfold ckV
  rw [if_neg (by rw [this]; simp), if_neg (by omega), if_neg (by omega)]
theorem ck_bd (r v s : Int) : 0 ≤ ckV r v s ∧ ckV r v s ≤ 11 := by unfold ckV; split <;> (try split) <;> (try split) <;> omega

theorem pr_check (r v s : Int) (w : World) : Calls Try.prog 24 #[.agg #[.int .i64 r, .int .i64 v, .int .i64 s]] w fun e w' => e = .returned (.int .i64 (ckV r v s)) ∧ Below w.heap.size w w' := by
  have HK := Lib.hid (fun w => ds_knB s w)
  rcases ck_ways r v s with ⟨k, e⟩ | ⟨k, _, e⟩ | ⟨k, _, _, e⟩ | ⟨k, _, _, _, e⟩ | ⟨k, _, _, _, _, e⟩ | ⟨k, _, _, _, _, _, e⟩ | ⟨k, _, _, _, _, _, e⟩
  all_goals rw [e]
  all_goals rw [k] at HK
  all_goals (try (have ⟨q0, q1⟩ := hour_in (r := r) (kn_of k) (by omega) (by omega)))
  all_goals clear e k
  all_goals go_enter Try.func24, Try.ntmps24
  all_goals go_wp2_with (go_at_call 25; refine (HK.out _).mono ?_; rintro e w' ⟨rfl, rfl⟩)
  all_goals go_ret
  all_goals exact ⟨rfl, by (repeat (first | (with_reducible exact Below.refl _ _) | (with_reducible assumption) | (with_reducible refine Near.up _ ?_) | (with_reducible refine Below.drew ?_) | (with_reducible refine below_alloc_on ?_ _) | (with_reducible refine below_set_on ?_ (by first | (simp; done) | (simp; omega) | omega) _)))⟩
theorem floor_is {v r : Int} (r0 : 5 ≤ r) (r1 : r ≤ 1000) (v0 : 1 ≤ v) (v1 : v ≤ 5000) : flV (-v * 360000) r = -v * 360000 / r ∧ nzB r = true ∧ -1800000000 ≤ -v * 360000 / r ∧ -v * 360000 / r ≤ 0 := by
  refine ⟨flV_small (by omega) (by omega) (by omega) (by omega), nzB_small (by omega) (by omega), ?_, ?_⟩
  · rw [Int.le_ediv_iff_mul_le (by omega)]
    have : (-1800000000 : Int) * r ≤ -1800000000 * 5 := by omega
    omega
  · exact Int.ediv_le_of_le_mul (by omega) (by omega)
theorem drops_is {v s : Int} (hs : Kn s) : -(-(v * 1000) * s / 1000) = v * s := by
  rcases hs with rfl | rfl | rfl | rfl <;> omega
theorem drops_is2 {v s : Int} (hs : Kn s) : v * 1000 * -s / 1000 = -(v * s) := by
  rcases hs with rfl | rfl | rfl | rfl <;> omega
theorem nd_bd {v s : Int} (hs : Kn s) (v0 : 1 ≤ v) (v1 : v ≤ 5000) : 10 ≤ v * s ∧ v * s ≤ 300000 := by
  rcases hs with rfl | rfl | rfl | rfl <;> omega

end Go.Proofs.Ythibaehiponfnaa
