/- The document's meaning of a part: looking back, since, one part in one place. -/
import Derived.Test.YtmemhlhjkpijpaaRefI
import Derived.Test.YtmemhlhjkpijpaaGv
import Derived.BigRegion
namespace Go.Proofs.Ytmemhlhjkpijpaa
open Go.RowKit
set_option linter.unusedVariables false
set_option linter.unusedSimpArgs false
set_option maxRecDepth 100000
attribute [local go_sem] cell_set_ite Near.cell Near.frozen

/-- What looking back tells. -/
def bkB (op a : Int) (f : Nat → Bool) (k : Nat) : Bool := if op = 6 then decide ((k : Int) - ltV f true k ≤ a) else decide (a < (k : Int) - ltV f false k)
theorem bk_yes {op a : Int} {f : Nat → Bool} {k u : Nat} {W : Bool} (hW : (op == 6) = W) (hu : u ≤ k) (hs : (k : Int) - a ≤ u) (h : f u = W) : bkB op a f k = W := by
  unfold bkB
  cases W
  · rw [if_neg (by simpa using hW)]
    exact decide_eq_false (by have := lt_within hu hs h; omega)
  · rw [if_pos (by simpa using hW)]
    exact decide_eq_true (lt_within hu hs h)
theorem bk_no {op a : Int} {f : Nat → Bool} {k : Nat} {W : Bool} (hW : (op == 6) = W) (ha : a ≤ 1000) (h : ∀ u, u ≤ k → (k : Int) - a ≤ u → f u ≠ W) : bkB op a f k = !W := by
  unfold bkB
  have := lt_without ha h
  cases W
  · rw [if_neg (by simpa using hW)]
    exact decide_eq_true this
  · rw [if_pos (by simpa using hW)]
    exact decide_eq_false (by omega)
set_option maxHeartbeats 4000000 in
theorem r7_back (op a tb : Int) (P : Option Addr) (m d k : Nat) (f : Nat → Bool) (w : World) (h : Vals w P m (fun i => .bool (f i))) (hk : k < m) (hm : m ≤ 100000) (ho : op = 6 ∨ op = 7) (ha0 : 0 ≤ a) (ha1 : a ≤ 1000) :
    Calls Try.prog 57 #[.agg #[.int .i64 op, .int .i64 a, .int .i64 tb], .slice P m d, .int .i64 (k : Int)] w fun e w' => e = .returned (.bool (bkB op a f k)) ∧ Below w.heap.size w w' := by
  obtain ⟨b, off, rfl, hbs, hc⟩ := h (by omega)
  have A0 := below_alloc_on (Below.refl w.heap.size w) (.cells #[.int .i64 op, .int .i64 a, .int .i64 tb] 36)
  obtain ⟨st, hst⟩ : ∃ st : Nat, st = k - a.toNat := ⟨_, rfl⟩
  have wa : IntKind.i64.wrap ((k : Int) - a) = (k : Int) - a := by rw [IntKind.wrap_i64]; omega
  have mi : (if a < (k : Int) then (k : Int) - a else 0) = (st : Int) := by split <;> omega
  have HC := Lib.hid (fun i (hi : i < m) => (show w.cell? ⟨b, off + i, none⟩ = some (.bool (f i)) from hc i hi))
  have hs1 : ∀ u : Nat, st ≤ u ↔ (k : Int) - a ≤ u := fun u => by omega
  have HS := Lib.hid hs1
  have BX := box_new w #[.int .i64 op, .int .i64 a, .int .i64 tb] 36
  have hsk : st ≤ k := by omega
  obtain ⟨W, hW⟩ : ∃ W, (op == 6) = W := ⟨_, rfl⟩
  have HY := Lib.hid (fun u (hu : u ≤ k) (hs : (k : Int) - a ≤ u) (h : f u = W) => bk_yes hW hu hs h)
  have HN := Lib.hid (fun h => @bk_no op a f k W hW ha1 h)
  have HW := Lib.hid hW
  obtain ⟨r, hr⟩ : ∃ r, bkB op a f k = r := ⟨_, rfl⟩
  rw [hr] at HY HN
  have HR := Lib.hid hr
  clear h hc hs1 hst hr ho hW
  go_enter Try.func57, Try.ntmps57
  go_upto_block 0 with (fail)
  clear mi
  refine at_world (fun W => Below w.heap.size w W ∧ Box W w.heap.size #[.int .i64 op, .int .i64 a, .int .i64 tb]) ⟨A0, BX⟩ ?_
  obtain ⟨g, hg⟩ : ∃ g, w.heap.size = g := ⟨_, rfl⟩
  have hgw : w.heap.size ≤ g := by omega
  have hbg : b < g := by omega
  simp only [hg]
  rintro w1 ⟨A1, B1⟩
  rw [← hg] at A1
  clear A0 BX hg
  go_wp2_with (fail)
  go_loopg [7] (k + 1 - st) (fun gk x wr => ∃ u : Nat, st ≤ u ∧ u ≤ k + 1 ∧ gk = k + 1 - u ∧ x = .int .i64 u ∧ (∀ v, st ≤ v → v < u → f v ≠ W) ∧ Below w.heap.size w wr ∧ Box wr g #[.int .i64 op, .int .i64 a, .int .i64 tb])
  case atStart => exact ⟨st, Nat.le_refl _, by omega, by omega, rfl, fun v h1 h2 => by omega, A1, B1⟩
  case round =>
    clear A1 B1
    obtain ⟨u0, hu1, hu2, rfl, rfl, hv, A1, B1⟩ := hrel
    obtain ⟨x0, x1, x2, xf, xl⟩ := B1.three
    have HV := Lib.hid hv
    clear hv
    by_cases hlt : u0 ≤ k
    · have c0 := (A1.cell (p := ⟨b, off + u0, none⟩) hbs).trans (HC.out u0 (by omega))
      have lb : b < wr.heap.size := by have := A1.size; omega
      have t0 : decide ((u0 : Int) ≤ (k : Int)) = true := decide_eq_true (by omega)
      have t1 : decide (u0 ≤ k) = true := decide_eq_true hlt
      have um : (u0 : Int) < (m : Int) := by omega
      have tW := HW.out
      have HB := Lib.hid B1
      by_cases hf : f u0 = W
      · have HRR := Lib.hid (HY.out u0 hlt ((HS.out u0).1 hu1) hf)
        rw [hf] at c0
        clear hf B1
        cases W
        all_goals
          go_wp2_with (fail)
          refine wp_region_calm (by kernel_rfl) (by kernel_rfl) ?_
          repeat (go_big_quiet_step ((fail)))
          refine wpQuiet_nil ?_
          intro _ hw'
          obtain ⟨u, rfl⟩ := hw'
          go_wp2_with (fail)
          all_goals go_ret
          all_goals exact ⟨by rw [HR.out, HRR.out]; first | rfl | simp [tW], below_call A1 u.below⟩
      · have HV2 := Lib.hid (show ∀ v, st ≤ v → v < u0 + 1 → f v ≠ W from fun v h1 h2 => by
          by_cases e : v = u0
          · rw [e]; exact hf
          · exact HV.out v h1 (by omega))
        obtain ⟨fu, hfu⟩ : ∃ x, f u0 = x := ⟨_, rfl⟩
        rw [hfu] at c0 hf
        clear hfu B1
        have hne : (fu == W) = false := by simpa using hf
        cases fu <;> cases W
        case false.false => simp at hf
        case true.true => simp at hf
        all_goals
          clear hf hne
          go_wp2_with (fail)
          refine wp_region_calm (by kernel_rfl) (by kernel_rfl) ?_
          repeat (go_big_quiet_step ((fail)))
          refine wpQuiet_nil ?_
          intro _ hw'
          obtain ⟨u, rfl⟩ := hw'
          have A2 := Lib.hid (below_call A1 u.below)
          have B2 := Lib.hid (HB.out.near u)
          clear x0 x1 x2 xf xl c0 A1 HB
          go_wp2_with (fail)
          go_roundg (k + 1 - (u0 + 1))
          case measure => omega
          case rel => exact ⟨u0 + 1, by omega, by omega, rfl, by go_num, HV2.out, A2.out, B2.out⟩
    · have t0 : decide ((u0 : Int) ≤ (k : Int)) = false := decide_eq_false (by omega)
      have t1 : decide (u0 ≤ k) = false := decide_eq_false hlt
      have HRR := Lib.hid (HN.out (fun v h1 h2 => HV.out v ((HS.out v).2 h2) (by omega)))
      have tW := HW.out
      have tn : (op != 6) = !W := by rw [← tW]; rfl
      clear B1
      cases W
      all_goals
        go_wp2_with (fail)
        all_goals go_ret
        all_goals exact ⟨by rw [HR.out, HRR.out]; first | rfl | simp [tW], A1⟩
/-- What since tells. -/
def snB (l r : Nat → Bool) (k : Nat) : Bool := decide (0 ≤ ltV r true k) && decide (ltV l false k ≤ ltV r true k)
theorem sn_yes {l r : Nat → Bool} {k u : Nat} (hu : u ≤ k) (h : r u = true) (hl : ∀ v, u < v → v ≤ k → l v = true) : snB l r k = true := by
  unfold snB
  have h1 := lt_ge r true hu h
  rw [decide_eq_true (by omega), Bool.true_and]
  refine decide_eq_true ?_
  rcases lt_two l false k with e | e
  · omega
  · obtain ⟨v, v1, v2, v3⟩ := lt_so l false e
    by_cases x : v ≤ u
    · omega
    · have := hl v (by omega) v1
      rw [v3] at this; cases this
theorem sn_no {l r : Nat → Bool} {k u : Nat} (hu : u ≤ k) (h : l u = false) (hr : ∀ v, u ≤ v → v ≤ k → r v = false) : snB l r k = false := by
  unfold snB
  have h1 := lt_ge l false hu h
  rcases lt_two r true k with e | e
  · rw [decide_eq_false (p := 0 ≤ ltV r true k) (by omega)]; rfl
  · obtain ⟨v, v1, v2, v3⟩ := lt_so r true e
    rw [decide_eq_false (p := ltV l false k ≤ ltV r true k) (by
      by_cases x : u ≤ v
      · have := hr v x v1
        rw [v3] at this; cases this
      · omega), Bool.and_false]
theorem sn_never {l r : Nat → Bool} {k : Nat} (hr : ∀ v, v ≤ k → r v = false) : snB l r k = false := by
  unfold snB
  rcases lt_two r true k with e | e
  · rw [decide_eq_false (p := 0 ≤ ltV r true k) (by omega)]; rfl
  · obtain ⟨v, v1, v2, v3⟩ := lt_so r true e
    have := hr v v1
    rw [v3] at this; cases this
set_option maxHeartbeats 4000000 in
theorem r7_since (P R : Option Addr) (m d d2 k : Nat) (l r : Nat → Bool) (w : World) (h : Vals w P m (fun i => .bool (l i))) (h2 : Vals w R m (fun i => .bool (r i))) (hk : k < m) (hm : m ≤ 100000) :
    Calls Try.prog 58 #[.slice P m d, .slice R m d2, .int .i64 (k : Int)] w fun e w' => e = .returned (.bool (snB l r k)) ∧ Below w.heap.size w w' := by
  obtain ⟨b, off, rfl, hbs, hc⟩ := h (by omega)
  obtain ⟨b2, off2, rfl, hbs2, hc2⟩ := h2 (by omega)
  have HC := Lib.hid (fun i (hi : i < m) => (show w.cell? ⟨b, off + i, none⟩ = some (.bool (l i)) from hc i hi))
  have HC2 := Lib.hid (fun i (hi : i < m) => (show w.cell? ⟨b2, off2 + i, none⟩ = some (.bool (r i)) from hc2 i hi))
  have HY := Lib.hid (fun u (hu : u ≤ k) h hl => @sn_yes l r k u hu h hl)
  have HN := Lib.hid (fun u (hu : u ≤ k) h hr => @sn_no l r k u hu h hr)
  have HX := Lib.hid (fun hr => @sn_never l r k hr)
  obtain ⟨z, hz⟩ : ∃ z, snB l r k = z := ⟨_, rfl⟩
  rw [hz] at HY HN HX
  have HZ := Lib.hid hz
  clear h h2 hc hc2 hz
  go_enter Try.func58, Try.ntmps58
  go_wp2_with (fail)
  go_loopg [7] (k + 2) (fun gk x wr => ∃ u : Nat, u ≤ k + 1 ∧ gk = u + 1 ∧ x = .int .i64 ((u : Int) - 1) ∧ (∀ v, u ≤ v → v ≤ k → l v = true ∧ r v = false) ∧ Below w.heap.size w wr)
  case atStart => exact ⟨k + 1, Nat.le_refl _, rfl, by congr 1; omega, fun v h1 h2 => by omega, Below.refl _ _⟩
  case round =>
    obtain ⟨u0, hu, rfl, rfl, hv, A1⟩ := hrel
    have HV := Lib.hid hv
    clear hv
    rcases Nat.eq_zero_or_pos u0 with e0 | e0
    · subst e0
      have HR := Lib.hid (HX.out (fun v h1 => (HV.out v (Nat.zero_le _) h1).2))
      go_wp2_with (fail)
      all_goals go_ret
      all_goals exact ⟨by rw [HZ.out, HR.out]; rfl, A1⟩
    · obtain ⟨j, rfl⟩ : ∃ j, u0 = j + 1 := ⟨u0 - 1, by omega⟩
      have ej : ((j + 1 : Nat) : Int) - 1 = (j : Int) := by omega
      rw [ej]
      have c0 := (A1.cell (p := ⟨b, off + j, none⟩) hbs).trans (HC.out j (by omega))
      have d0 := (A1.cell (p := ⟨b2, off2 + j, none⟩) hbs2).trans (HC2.out j (by omega))
      have jm : (j : Int) < (m : Int) := by omega
      have jp : (0 : Int) ≤ (j : Int) := by omega
      have wj : IntKind.i64.wrap ((j : Int) - 1) = (j : Int) - 1 := by rw [IntKind.wrap_i64]; omega
      have HYj := Lib.hid (fun (h : r j = true) => HY.out j (by omega) h (fun v h1 h2 => (HV.out v h1 h2).1))
      have HNj := Lib.hid (fun (h : l j = false) (h3 : r j = false) => HN.out j (by omega) h (fun v h1 h2 => by
        by_cases e : v = j
        · rw [e]; exact h3
        · exact (HV.out v (by omega) h2).2))
      have HVj := Lib.hid (show l j = true → r j = false → ∀ v, j ≤ v → v ≤ k → l v = true ∧ r v = false from fun h3 h4 v h1 h2 => by
        by_cases e : v = j
        · rw [e]; exact ⟨h3, h4⟩
        · exact HV.out v (by omega) h2)
      clear HV ej e0
      generalize l j = lj at *
      generalize r j = rj at *
      cases rj
      · cases lj
        · have HR := Lib.hid (HNj.out rfl rfl)
          clear HYj HNj HVj HY HN HX
          go_wp2_with (fail)
          all_goals go_ret
          all_goals exact ⟨by rw [HZ.out, HR.out]; rfl, A1⟩
        · have HV2 := Lib.hid (HVj.out rfl rfl)
          clear HYj HNj HVj
          go_wp2_with (fail)
          go_roundg (j + 1)
          case measure => omega
          case rel => exact ⟨j, by omega, rfl, rfl, HV2.out, A1⟩
      · have HR := Lib.hid (HYj.out rfl)
        clear HYj HNj HVj HY HN HX
        go_wp2_with (fail)
        all_goals go_ret
        all_goals exact ⟨by rw [HZ.out, HR.out]; rfl, A1⟩
end Go.Proofs.Ytmemhlhjkpijpaa
