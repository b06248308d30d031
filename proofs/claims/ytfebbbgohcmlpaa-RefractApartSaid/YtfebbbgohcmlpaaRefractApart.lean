/- RefractApart holds of every list of edges: two drops are five ticks apart at the least, and an edge counts, unless one of the four ticks ahead had a drop. No condition. -/
import Derived.Test.YtfebbbgohcmlpaaRef
import Derived.Test.YtfebbbgohcmlpaaTruths
namespace Go.Proofs.Ytfebbbgohcmlpaa.refractApart
open Go.ChangeShapes Go.WideShapes Go.ChangeAt Go.RowKit
set_option linter.unusedVariables false

/-- What is left of the wait behind these, the newest ahead. -/
def waitR : List Bool → Nat
  | [] => 0
  | true :: _ => 4
  | false :: r => waitR r - 1
def wtV (ds : List Bool) : Int := (waitR ds.reverse : Nat)
theorem waitR_le : ∀ r, waitR r ≤ 4
  | [] => by simp [waitR]
  | true :: _ => by simp [waitR]
  | false :: r => by have := waitR_le r; simp [waitR]; omega
theorem any_wait : ∀ (r : List Bool) (k : Nat), k ≤ 4 → (r.take k).any id = decide (4 - k < waitR r)
  | [], k, h => by simp [waitR]
  | x :: r, 0, h => by
    have := waitR_le (x :: r)
    simp; omega
  | true :: r, k + 1, h => by simp [waitR]; omega
  | false :: r, k + 1, h => by
    have h1 := any_wait r k (by omega)
    simp only [List.take_succ_cons, List.any_cons, id, Bool.false_or, waitR]
    rw [show (r.take k).any id = decide (4 - k < waitR r) from h1]
    rw [Bool.eq_iff_iff]; simp; omega
theorem wt_bd (ds : List Bool) : 0 ≤ wtV ds ∧ wtV ds ≤ 4 := by
  unfold wtV; have := waitR_le ds.reverse; omega
theorem near_is (ds : List Bool) : (ds.drop (ds.length - 4)).any id = decide (0 < wtV ds) := by
  have h := any_wait ds.reverse 4 (by omega)
  rw [List.take_reverse, List.any_reverse] at h
  rw [h]
  unfold wtV
  rw [Bool.eq_iff_iff]; simp
theorem wt_next (ds : List Bool) (e : Bool) : wtV (ds ++ [rfB (wtV ds) e]) = rfV (wtV ds) e ∧ rfB (wtV ds) e = (e && !decide (0 < wtV ds)) ∧ 0 ≤ rfV (wtV ds) e ∧ rfV (wtV ds) e ≤ 4 := by
  obtain ⟨b0, b1⟩ := wt_bd ds
  have hd : dwV (wtV ds) = wtV ds := by unfold dwV; rw [if_neg (by omega), if_neg (by omega)]
  by_cases h : 0 < wtV ds
  · obtain ⟨e1, e2⟩ := rf_busy (n := wtV ds) e (by omega)
    rw [e1, e2, hd]
    refine ⟨?_, by simp [h], by omega, by omega⟩
    unfold wtV at *
    simp [waitR]; omega
  · have h0 : wtV ds = 0 := by omega
    cases e
    · obtain ⟨e1, e2⟩ := rf_none (n := wtV ds) (by omega)
      rw [e1, e2]
      refine ⟨?_, by simp, by omega, by omega⟩
      unfold wtV at *
      simp [waitR]; omega
    · obtain ⟨e1, e2⟩ := rf_drop (n := wtV ds) (by omega)
      rw [e1, e2]
      refine ⟨?_, by simp [h], by omega, by omega⟩
      unfold wtV
      simp [waitR]
theorem any_next (ds : List Bool) {k0 k : Nat} (h0 : k0 ≤ k) (h : k < ds.length) : ((ds.take (k + 1)).drop k0).any id = (((ds.take k).drop k0).any id || ds.getD k false) := by
  rw [List.take_succ_eq_append_getElem h, List.drop_append_of_le_length (by simp; omega), List.any_append]
  simp [List.getD, List.getElem?_eq_getElem h]

set_option maxRecDepth 100000 in
set_option maxHeartbeats 4000000 in
theorem some_ (W : World) (A : Option Addr) (n c : Nat) (ps : List Bool) (hi : Truths W A n ps) (hn : n ≤ 200) (hc : n ≤ c) :
    Calls Try.prog 4 #[.slice A n c] W fun e W' => e = .returned (.bool true) ∧ Below W.heap.size W W' := by
  have HI := Lib.hid hi
  have t1 : decide (200 < (n : Int)) = false := decide_eq_false (by omega)
  clear hi
  go_enter Try.func4, Try.ntmps4
  go_wp2
  go_loopw [3, 5, 15] (fun v l i wr => ∃ ds : List Bool, ds.length ≤ n ∧ i = .int .i64 ds.length ∧ v = .int .i64 (wtV ds) ∧ GrownT W ds l wr) (fun _ _ i _ => n - (intOf i).toNat)
  case atStart => exact ⟨[], Nat.zero_le _, rfl, rfl, GrownT.nil W⟩
  case round =>
    obtain ⟨ds, hj, rfl, rfl, hG⟩ := hrel
    have HG := Lib.hid hG
    obtain ⟨B, d, rfl, hd, hT⟩ := hG.form
    have A1 := hG.2.2
    have HT := Lib.hid hT
    clear hT
    by_cases hlt : ds.length < n
    · obtain ⟨b, off, rfl, hbs, hck⟩ := (HI.out.below A1).at_ hlt
      obtain ⟨e, he⟩ : ∃ e, ps.getD ds.length false = e := ⟨_, rfl⟩
      rw [he] at hck
      clear he
      obtain ⟨q1, q2, q3, q4⟩ := wt_next ds e
      obtain ⟨w0, w1⟩ := wt_bd ds
      have HS := Lib.hid (fun w => rf_step (wtV ds) e w)
      have HN := Lib.hid (near_is ds)
      obtain ⟨N, hN⟩ : ∃ N, decide (0 < wtV ds) = N := ⟨_, rfl⟩
      rw [hN] at q2 HN
      generalize rfB (wtV ds) e = D at *
      generalize rfV (wtV ds) e = V at *
      have HQ := Lib.hid q1
      have HW := Lib.hid (show 0 ≤ wtV ds ∧ wtV ds ≤ 4 from ⟨w0, w1⟩)
      generalize wtV ds = wt at *
      clear hN q1 hG w0 w1
      rcases (by omega : (ds.length < 4 ∧ 0 ≤ ds.length) ∨ (4 ≤ ds.length ∧ ds.length ≤ 4) ∨ (4 < ds.length ∧ 4 ≤ ds.length)) with ⟨hk, hk2⟩ | ⟨hk, hk2⟩ | ⟨hk, hk2⟩
      all_goals
        go_wp2_with (go_at_call 5; refine (HS.out _).mono ?_; rintro e w' ⟨rfl, rfl⟩)
        go_loop [7, 8] (fun v k => ∃ q : Nat, ds.length - 4 ≤ q ∧ q ≤ ds.length ∧ k = .int .i64 q ∧ v = .bool (((ds.take q).drop (ds.length - 4)).any id)) (fun _ k => ds.length - (intOf k).toNat)
        case atStart => exact ⟨ds.length - 4, by omega, by omega, congrArg (Value.int .i64) (by omega), by simp⟩
        case round =>
          obtain ⟨q, hq0, hq1, rfl, rfl⟩ := hrel
          by_cases hql : q < ds.length
          · obtain ⟨b2, off2, rfl, hbs2, hck2⟩ := HT.out.at_ hql
            have hne := any_next ds hq0 hql
            generalize ((ds.take q).drop (ds.length - 4)).any id = P at *
            generalize ds.getD q false = L at *
            have HNE := Lib.hid hne
            clear hne hck
            cases P
            all_goals
              go_wp2
              go_round
              case rel => exact ⟨q + 1, by omega, by omega, by go_num, by rw [HNE.out]; simp⟩
              case measure => simp [intOf]; omega
          · obtain rfl : q = ds.length := by omega
            have hNv : ((ds.take ds.length).drop (ds.length - 4)).any id = N := by rw [List.take_length]; exact HN.out
            rw [hNv]
            clear hNv hq0 hq1 hql
            cases N <;> cases e
            all_goals
              simp at q2
              subst q2
              go_wp2_with (at_builtin; refine app_truth rfl _ _ rfl _ rfl rfl HG.out.2.1 HG.out.2.2.size (by omega) ?_)
              intro v' w2 ho hg
              have G2 := Lib.hid (HG.out.next ho hg)
              clear ho hg
              go_wp2
              go_roundw
              case rel => exact ⟨_, by simp; omega, by simp, by rw [HQ.out], G2.out⟩
              case measure => simp [intOf]; omega
    · obtain hq : ds.length = n := by omega
      have t2 : decide ((ds.length : Int) < (n : Int)) = false := decide_eq_false (by omega)
      clear hq
      go_wp2_with (first
    | (go_at_call 7; refine (law19_awake _).mono ?_; rintro e w' ⟨rfl, rfl⟩))
      all_goals go_ret
      all_goals exact ⟨rfl, A1⟩

theorem walk (W : World) (A : Option Addr) (n c : Nat) (rs : List (List Value)) (hi : Rows [.bool] W A n rs) (hc : n ≤ c) (hr : n * 1 ≤ 140737488351232) :
    Calls Try.prog 4 #[.slice A n c] W fun e W' => e = .returned (.bool true) ∧ Below W.heap.size W W' := by
  by_cases h : 200 < n
  · have t1 : decide (200 < (n : Int)) = true := decide_eq_true (by omega)
    clear hi
    go_enter Try.func4, Try.ntmps4
    go_wp2_with (first
    | (go_at_call 7; refine (law19_awake _).mono ?_; rintro e w' ⟨rfl, rfl⟩))
    all_goals go_ret
    all_goals exact ⟨rfl, Below.refl _ _⟩
  · obtain ⟨ps, hp⟩ := Truths.of_rows hi
    exact some_ W A n c ps hp (by omega) hc

theorem lifted (os : Os) (started : os.Started) (H : Type) (enc : TypeId × Value → H) :
    ReturnsInHanded {} Try.checked os 4 .any (Rows.refractApartSpec.pre6 enc Try.prog Try.f4 Rows.refractApartRow.domain false) (Rows.refractApartSpec.post enc Try.prog Try.f4 false true false false) := by
  refine law_lift started (by kernel_rfl) Try.func4 rfl rfl ?_ (by kernel_rfl)
    (ChangeSpec.witness6 (enc := enc) (C := Try.checked) false ⟨#[], #[.slice none 0 0], []⟩ 8 (by kernel_rfl) (by kernel_rfl) (by kernel_rfl) (by kernel_rfl)) ?_
  · intro ds hl
    match ds, hl with
    | [_], _ => exact ⟨rfl, rfl, rfl⟩
  · intro W base args ds p hval hA hlt hwt
    rw [Try.params4] at hA hval hwt
    obtain ⟨v0, vs0, d0, ds0, p0, q0, hargs, rfl, rfl, h0, r0⟩ := trodAll_cons hA
    obtain ⟨rfl, rfl, rfl⟩ := trodAll_nil r0
    obtain rfl : args = #[v0] := by cases args; simp_all
    have wt0 : ∀ n ∈ d0.weights Try.prog 26, n ≤ reachBytes := fun n hn => by
      have := List.all_eq_true.1 hwt n (DataW.weights_mem_each (j := 0) (t := 26) (d := d0) rfl rfl n hn)
      simpa using this
    have lt0 : ∀ x ∈ p0, x.block < W.heap.size := fun x hx => hlt x (by simp [hx])
    obtain ⟨A0, n0, c0, xs0, rfl, hi0, hc0, hr0⟩ := open_rows_arg 5 [.bool] Try.underlying26 (by kernel_rfl) (by kernel_rfl) (by decide) (by kernel_rfl) (hval 0 26 v0 rfl rfl) h0 lt0 wt0
    exact walk W A0 n0 c0 xs0 hi0 hc0 hr0

theorem over : Rows.refractApartRow.holds Try.pinned (OpenSpec.ofChange Rows.refractApartSpec) :=
  OpenClaim.holds_of_wide 4 Try.f4 rfl rfl rfl rfl rfl rfl rfl ⟨rfl, rfl, rfl, rfl, rfl⟩ rfl rfl rfl rfl rfl (by kernel_rfl) Try.func4 (by kernel_rfl)
    (of_decide_eq_true (by kernel_rfl)) (by unfold Func.isWrapper; first | (rw [if_pos (by decide +kernel)]; kernel_rfl) | (rw [if_neg (by decide +kernel)]; exact ⟨rfl, rfl⟩))
    (fun os started H enc _ => lifted os started H enc)

theorem proved : Rows.RefractApartSaid := over
#print axioms proved
end Go.Proofs.Ytfebbbgohcmlpaa.refractApart
