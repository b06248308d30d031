/- SatSums is true of any list of integers: many are added one behind the other as the document says, and of numbers not below 0 the order does not matter. -/
import Derived.Test.YtckafdjinelchaaSatSum
namespace Go.Proofs.Ytckafdjinelchaa.satSums
open Go.ChangeShapes Go.WideShapes Go.ChangeAt Go.RowKit
set_option linter.unusedVariables false

def allB (l : List Int) : Bool := l.all fun x => decide (0 ≤ x)
theorem allB_step (xs : List Int) (k : Nat) (hk : k < xs.length) : allB (xs.take (k + 1)) = (allB (xs.take k) && decide (0 ≤ xs.getD k 0)) := by
  unfold allB
  rw [List.take_add_one, List.all_append]
  simp [List.getD, List.getElem?_eq_getElem hk]
theorem rev_step (xs : List Int) (k : Nat) (hk : k < xs.length) : xs.reverse.take (k + 1) = xs.reverse.take k ++ [xs.getD (xs.length - 1 - k) 0] := by
  rw [List.take_add_one]
  congr 1
  rw [List.getElem?_eq_getElem (by simpa using hk), List.getElem_reverse]
  simp only [List.getD]
  rw [List.getElem?_eq_getElem (by omega)]
  rfl
def tot (l : List Int) : Int := l.foldr (· + ·) 0
theorem tot_append (a b : List Int) : tot (a ++ b) = tot a + tot b := by
  induction a with
  | nil => simp [tot]
  | cons x a ih => simp only [tot, List.cons_append, List.foldr_cons] at ih ⊢; omega
theorem tot_reverse (l : List Int) : tot l.reverse = tot l := by
  induction l with
  | nil => rfl
  | cons x l ih => rw [List.reverse_cons, tot_append, ih]; simp [tot]; omega
theorem clV_nonneg {n : Int} (h : 0 ≤ n) : clV n = if 9007199254740992 < n then 9007199254740992 else n := by
  split
  · exact clV_pos (by omega) h
  · exact clV_in (by omega)
theorem clB_nonneg {n : Int} (h : 0 ≤ n) : clB n = decide (9007199254740992 < n) := by
  unfold clB withB; rw [Bool.eq_iff_iff]; simp; omega
theorem sum_nonneg (l : List Int) : ∀ (h : ∀ x ∈ l, 0 ≤ x), 0 ≤ tot l ∧ sumV l = (if 9007199254740992 < tot l then 9007199254740992 else tot l) ∧ sumB l = decide (9007199254740992 < tot l) := by
  intro h
  have key : ∀ (l pre : List Int), (∀ x ∈ l, 0 ≤ x) → 0 ≤ tot pre → ∀ s b, s = (if 9007199254740992 < tot pre then 9007199254740992 else tot pre) → b = decide (9007199254740992 < tot pre) →
      0 ≤ tot (pre ++ l) ∧ l.foldl (fun s n => (addV s.1 n, s.2 || addB s.1 n)) (s, b) = ((if 9007199254740992 < tot (pre ++ l) then 9007199254740992 else tot (pre ++ l)), decide (9007199254740992 < tot (pre ++ l))) := by
    intro l
    induction l with
    | nil => intro pre _ hp s b hs hb; simp [hs, hb, hp]
    | cons x l ih =>
      intro pre hl hp s b hs hb
      have hx : 0 ≤ x := hl x (by simp)
      have ht : tot (pre ++ [x]) = tot pre + x := by rw [tot_append]; simp [tot]
      have h2 := ih (pre ++ [x]) (fun y hy => hl y (by simp [hy])) (by omega) (addV s x) (b || addB s x) (by
        rw [ht]; unfold addV; rw [hs]
        have e1 : clV (if 9007199254740992 < tot pre then 9007199254740992 else tot pre) = (if 9007199254740992 < tot pre then 9007199254740992 else tot pre) := clV_in (by split <;> omega)
        rw [e1, clV_nonneg hx]
        rw [clV_nonneg (by split <;> split <;> omega)]
        repeat' split
        all_goals omega) (by
        rw [ht]; unfold addB bothB; rw [hb, hs]
        have e1 : clV (if 9007199254740992 < tot pre then 9007199254740992 else tot pre) = (if 9007199254740992 < tot pre then 9007199254740992 else tot pre) := clV_in (by split <;> omega)
        have e2 : clB (if 9007199254740992 < tot pre then 9007199254740992 else tot pre) = false := clB_in (by split <;> omega)
        rw [e1, e2, clV_nonneg hx, clB_nonneg hx]
        rw [clB_nonneg (by split <;> split <;> omega)]
        rw [Bool.eq_iff_iff]; simp only [Bool.or_eq_true, decide_eq_true_eq, Bool.false_or]
        repeat' split
        all_goals omega)
      rw [List.append_assoc] at h2
      exact h2
  have := key l [] h (by simp [tot]) 0 false (by simp [tot]) (by simp [tot])
  simp only [List.nil_append] at this
  refine ⟨this.1, ?_, ?_⟩
  · unfold sumV sumP; rw [this.2]
  · unfold sumB sumP; rw [this.2]
theorem sums_rev (l : List Int) (h : allB l = true) : sumV l.reverse = sumV l ∧ sumB l.reverse = sumB l := by
  have h1 : ∀ x ∈ l, 0 ≤ x := by simpa [allB] using h
  have h2 : ∀ x ∈ l.reverse, 0 ≤ x := by simpa using h1
  obtain ⟨_, a1, a2⟩ := sum_nonneg l h1
  obtain ⟨_, b1, b2⟩ := sum_nonneg l.reverse h2
  rw [a1, a2, b1, b2, tot_reverse]
  exact ⟨rfl, rfl⟩

theorem int_info : (Try.prog.info? 3).map (fun i => (i.zero, i.size, i.bytes)) = some (some (.int .i64 0), 1, 8) := by kernel_rfl

set_option maxHeartbeats 1000000 in
theorem walk (w : World) (A : Option Addr) (n c : Nat) (xs : List Int) (hi : Ints w A n xs) (hc : n ≤ c) (hr : n * 8 ≤ 140737488351232) (wx : ∀ x ∈ xs, (Lit.int .i64 x).wf = true) :
    Calls Try.prog 7 #[.slice A n c] w fun e w' => e = .returned (.bool true) ∧ Below w.heap.size w w' := by
  clear wx
  by_cases hn : 100 < n
  · go_enter Try.func7, Try.ntmps7
    go_wp2_with (go_at_call 18; refine (law_awake _).mono ?_; rintro e w' ⟨rfl, hb⟩)
    go_ret
    exact ⟨rfl, hb⟩
  · obtain ⟨i0, hi0, hz0, hz1, hz2⟩ := info_parts int_info
    have HI := Lib.hid hi
    have HL := Lib.hid hi.1
    clear hi
    go_enter Try.func7, Try.ntmps7
    go_wp2_with (first
      | (go_at_call 19; refine (sat_sum A n c xs _ HI.out (by omega)).mono ?_; rintro e w' ⟨rfl, rfl⟩)
      | (go_at_call 20; refine (ref_sum A n c xs _ HI.out (by omega)).mono ?_; rintro e w' ⟨rfl, rfl⟩))
    go_loop [7, 37] (fun al i => ∃ k : Nat, k ≤ n ∧ al = .bool (allB (xs.take k)) ∧ i = .int .i64 k) (fun _ i => n - (intOf i).toNat)
    case atStart => exact ⟨0, Nat.zero_le _, rfl, rfl⟩
    case round =>
      obtain ⟨k, hk, rfl, rfl⟩ := hrel
      by_cases hlt : k < n
      · obtain ⟨b, off, rfl, _, hcell⟩ := HI.out.2 (by omega)
        have hck := hcell k hlt
        have e1 := Lib.hid (allB_step xs k (by have := HL.out; omega))
        clear hcell
        generalize xs.getD k 0 = x at *
        go_wp2
        all_goals
          go_round
          case rel => exact ⟨k + 1, by omega, by rw [e1.out]; simp [*], by go_num⟩
          case measure => simp [intOf]; omega
      · obtain rfl : k = n := by omega
        have e3 : xs.take k = xs := List.take_of_length_le (by have := HL.out; omega)
        rw [e3]
        clear e3
        go_wp2
        have hb0 : Below w.heap.size w w := Below.refl _ _
        go_loopw [9, 51] (fun v i wr => ∃ j : Nat, j ≤ k ∧ i = .int .i64 j ∧ (∃ B d, v = .slice B j d) ∧ wr.ownsRow w.heap.size 3 1 v j ((xs.reverse.take j).map (Value.int .i64)) ∧ Below w.heap.size w wr) (fun _ i _ => k - (intOf i).toNat)
        case atStart => exact ⟨0, Nat.zero_le _, rfl, ⟨none, 0, rfl⟩, World.ownsRow_nil _ _ _ _, Below.refl _ _⟩
        case round =>
          obtain ⟨j, hj, rfl, ⟨B, d, rfl⟩, hown, hbw⟩ := hrel
          by_cases hlt2 : j < k
          · obtain ⟨b, off, rfl, hbs, hcell⟩ := HI.out.2 (by omega)
            have hck : wr.cell? ⟨b, off + (k - 1 - j), none⟩ = some (.int .i64 (xs.getD (k - 1 - j) 0)) := (hbw.cell (p := ⟨b, off + (k - 1 - j), none⟩) hbs).trans (hcell _ (by omega))
            have e1 := rev_step xs j (by have := HL.out; omega)
            rw [HL.out] at e1
            have E1 := Lib.hid e1
            clear hcell e1
            generalize xs.getD (k - 1 - j) 0 = x at *
            go_wp2_with (at_builtin; refine wpList_append_own _ rfl _ _ 29 rfl w.heap.size 3 i0 (.int .i64 0) 1 8 Try.underlying29 hi0 hz0 hz1 hz2 rfl (by decide) _ _ _ rfl (hown.alloc _) ⟨wr.heap.size, 0, none⟩ 1 1 [.int .i64 x] rfl rfl ?c1 ?c2 ?c3 ?c4 ?c5 ?_)
            case c1 =>
              intro j u hj
              match j, hj with
              | 0, hj => simp at hj; subst hj; simp [Addr.add]
            case c2 => intro u hu; simp at hu; subst hu; rfl
            case c3 => unfold maxLen; omega
            case c4 => omega
            case c5 => have := hbw.size; simp; omega
            intro v' w1 hown' hgrow _
            have hb1 : Below w.heap.size w w1 := (hbw.alloc hbw.size _).grown hgrow (by have := hbw.size; simp; omega) (fun g hg => by have := (hown.lt g hg).1; omega)
            have hform : ∃ B d, v' = .slice B (j + 1) d := by
              rcases hown'.2 with ⟨_, h0⟩ | ⟨g, cap, cur, hv, _⟩
              · omega
              · exact ⟨_, _, hv⟩
            have hown2 : w1.ownsRow w.heap.size 3 1 v' (j + 1) ((xs.reverse.take (j + 1)).map (Value.int .i64)) := by rw [E1.out]; simpa using hown'
            clear hown' hgrow hown hck E1 hbw
            go_wp2
            go_roundw
            case rel => exact ⟨j + 1, by omega, by go_num, hform, hown2, hb1⟩
            case measure => simp [intOf]; omega
          · obtain rfl : j = k := by omega
            have e3 : xs.reverse.take j = xs.reverse := List.take_of_length_le (by have := HL.out; simp; omega)
            rw [e3] at hown
            have hs := Ints.of_own hown (by have := HL.out; simpa using this)
            have HS := Lib.hid hs
            clear hs e3
            rcases Bool.eq_false_or_eq_true (allB xs) with hall | hall
            · obtain ⟨r1, r2⟩ := sums_rev xs hall
              go_wp2_with (first
                | (go_at_call 19; refine (sat_sum _ _ _ _ _ HS.out (by omega)).mono ?_; rintro e w' ⟨rfl, rfl⟩)
                | (go_at_call 18; refine (law_awake _).mono ?_; rintro e w' ⟨rfl, hb⟩))
              all_goals go_ret
              all_goals exact ⟨rfl, hbw.trans (hb.mono hbw.size)⟩
            · go_wp2_with (first
                | (go_at_call 19; refine (sat_sum _ _ _ _ _ HS.out (by omega)).mono ?_; rintro e w' ⟨rfl, rfl⟩)
                | (go_at_call 18; refine (law_awake _).mono ?_; rintro e w' ⟨rfl, hb⟩))
              all_goals go_ret
              all_goals exact ⟨rfl, hbw.trans (hb.mono hbw.size)⟩

theorem lifted (os : Os) (started : os.Started) (H : Type) (enc : TypeId × Value → H) :
    ReturnsInHanded {} Try.checked os 7 .any (Rows.satSumsSpec.pre6 enc Try.prog Try.f7 Rows.satSumsRow.domain false) (Rows.satSumsSpec.post enc Try.prog Try.f7 false true false false) := by
  refine law_lift started (by kernel_rfl) Try.func7 rfl rfl ?_ (by kernel_rfl)
    (ChangeSpec.witness6 (enc := enc) (C := Try.checked) false ⟨#[], #[.slice none 0 0], []⟩ 8 (by kernel_rfl) (by kernel_rfl) (by kernel_rfl) (by kernel_rfl)) ?_
  · intro ds hl
    match ds, hl with
    | [_], _ => exact ⟨rfl, rfl, rfl⟩
  · intro W base args ds p hval hA hlt hwt
    rw [Try.params7] at hA hval hwt
    obtain ⟨v0, vs0, d0, ds0, p0, q0, hargs, rfl, rfl, h0, r0⟩ := trodAll_cons hA
    obtain ⟨rfl, rfl, rfl⟩ := trodAll_nil r0
    obtain rfl : args = #[v0] := by cases args; simp_all
    have wt0 : ∀ n ∈ d0.weights Try.prog 29, n ≤ reachBytes := fun n hn => by
      have := List.all_eq_true.1 hwt n (DataW.weights_mem_each (j := 0) (t := 29) (d := d0) rfl rfl n hn)
      simpa using this
    have lt0 : ∀ x ∈ p0, x.block < W.heap.size := fun x hx => hlt x (by simp [hx])
    obtain ⟨A0, n0, c0, xs0, rfl, hi0, hc0, hr0, w0⟩ := open_ints_arg Try.underlying29 Try.underlying3 (by kernel_rfl) (by kernel_rfl) (hval 0 29 v0 rfl rfl) h0 lt0 wt0
    exact walk W A0 n0 c0 xs0 hi0 hc0 hr0 w0

theorem over : Rows.satSumsRow.holds Try.pinned (OpenSpec.ofChange Rows.satSumsSpec) :=
  OpenClaim.holds_of_wide 7 Try.f7 rfl rfl rfl rfl rfl rfl rfl ⟨rfl, rfl, rfl, rfl, rfl⟩ rfl rfl rfl rfl rfl (by kernel_rfl) Try.func7 (by kernel_rfl)
    (of_decide_eq_true (by kernel_rfl)) (by unfold Func.isWrapper; first | (rw [if_pos (by decide +kernel)]; kernel_rfl) | (rw [if_neg (by decide +kernel)]; exact ⟨rfl, rfl⟩))
    (fun os started H enc _ => lifted os started H enc)

theorem proved : Rows.SatSumsSaid := over
#print axioms proved
end Go.Proofs.Ytckafdjinelchaa.satSums
