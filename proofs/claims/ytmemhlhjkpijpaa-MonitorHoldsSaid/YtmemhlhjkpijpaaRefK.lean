/- The document's meaning of a part: looking back, since, one part in one place. The document's meaning: one part in one place. -/
import Derived.Test.YtmemhlhjkpijpaaRefI
import Derived.Test.YtmemhlhjkpijpaaGv
import Derived.BigRegion

namespace Go.Proofs.Ytmemhlhjkpijpaa
open Go.RowKit
set_option linter.unusedVariables false
set_option linter.unusedSimpArgs false
set_option maxRecDepth 100000
attribute [local go_sem] cell_set_ite Near.cell Near.frozen

/-- What looking back tells. -/
def bkB (op a : Int) (f : Nat → Bool) (k : Nat) : Bool := if op = 6 then decide ((k : Int) - ltV f true k ≤ a) else decide (a < (k : Int) - ltV f false k)
theorem bk_yes {op a : Int} {f : Nat → Bool} {k u : Nat} {W : Bool} (hW : (op == 6) = W) (hu : u ≤ k) (hs : (k : Int) - a ≤ u) (h : f u = W) : bkB op a f k = W := by
  unfold bkB
  cases W
  · rw [if_neg (by simpa using hW)]
    exact decide_eq_false (by have := lt_within hu hs h; omega)
  · rw [if_pos (by simpa using hW)]
    exact decide_eq_true (lt_within hu hs h)
theorem bk_no {op a : Int} {f : Nat → Bool} {k : Nat} {W : Bool} (hW : (op == 6) = W) (ha : a ≤ 1000) (h : ∀ u, u ≤ k → (k : Int) - a ≤ u → f u ≠ W) : bkB op a f k = !W := by
  unfold bkB
  have := lt_without ha h
  cases W
  · rw [if_neg (by simpa using hW)]
    exact decide_eq_true this
  · rw [if_pos (by simpa using hW)]
    exact decide_eq_false (by omega)
set_option maxHeartbeats 4000000 in
theorem r7_back (op a tb : Int) (P : Option Addr) (m d k : Nat) (f : Nat → Bool) (w : World) (h : Vals w P m (fun i => .bool (f i))) (hk : k < m) (hm : m ≤ 100000) (ho : op = 6 ∨ op = 7) (ha0 : 0 ≤ a) (ha1 : a ≤ 1000) :
    Calls Try.prog 57 #[.agg #[.int .i64 op, .int .i64 a, .int .i64 tb], .slice P m d, .int .i64 (k : Int)] w fun e w' => e = .returned (.bool (bkB op a f k)) ∧ Below w.heap.size w w' := by
  obtain ⟨b, off, rfl, hbs, hc⟩ := h (by omega)
  have A0 := below_alloc_on (Below.refl w.heap.size w) (.cells #[.int .i64 op, .int .i64 a, .int .i64 tb] 36)
  obtain ⟨st, hst⟩ : ∃ st : Nat, st = k - a.toNat := ⟨_, rfl⟩
  have wa : IntKind.i64.wrap ((k : Int) - a) = (k : Int) - a := by rw [IntKind.wrap_i64]; omega
  have mi : (if a < (k : Int) then (k : Int) - a else 0) = (st : Int) := by split <;> omega
  have HC := Lib.hid (fun i (hi : i < m) => (show w.cell? ⟨b, off + i, none⟩ = some (.bool (f i)) from hc i hi))
  have hs1 : ∀ u : Nat, st ≤ u ↔ (k : Int) - a ≤ u := fun u => by omega
  have HS := Lib.hid hs1
  have BX := box_new w #[.int .i64 op, .int .i64 a, .int .i64 tb] 36
  have hsk : st ≤ k := by omega
  obtain ⟨W, hW⟩ : ∃ W, (op == 6) = W := ⟨_, rfl⟩
  have HY := Lib.hid (fun u (hu : u ≤ k) (hs : (k : Int) - a ≤ u) (h : f u = W) => bk_yes hW hu hs h)
  have HN := Lib.hid (fun h => @bk_no op a f k W hW ha1 h)
  have HW := Lib.hid hW
  obtain ⟨r, hr⟩ : ∃ r, bkB op a f k = r := ⟨_, rfl⟩
  rw [hr] at HY HN
  have HR := Lib.hid hr
  clear h hc hs1 hst hr ho hW
  go_enter Try.func57, Try.ntmps57
  go_upto_block 0 with (fail)
  clear mi
  refine at_world (fun W => Below w.heap.size w W ∧ Box W w.heap.size #[.int .i64 op, .int .i64 a, .int .i64 tb]) ⟨A0, BX⟩ ?_
  obtain ⟨g, hg⟩ : ∃ g, w.heap.size = g := ⟨_, rfl⟩
  have hgw : w.heap.size ≤ g := by omega
  have hbg : b < g := by omega
  simp only [hg]
  rintro w1 ⟨A1, B1⟩
  rw [← hg] at A1
  clear A0 BX hg
  go_wp2_with (fail)
  go_loopg [7] (k + 1 - st) (fun gk x wr => ∃ u : Nat, st ≤ u ∧ u ≤ k + 1 ∧ gk = k + 1 - u ∧ x = .int .i64 u ∧ (∀ v, st ≤ v → v < u → f v ≠ W) ∧ Below w.heap.size w wr ∧ Box wr g #[.int .i64 op, .int .i64 a, .int .i64 tb])
  case atStart => exact ⟨st, Nat.le_refl _, by omega, by omega, rfl, fun v h1 h2 => by omega, A1, B1⟩
  case round =>
    clear A1 B1
    obtain ⟨u0, hu1, hu2, rfl, rfl, hv, A1, B1⟩ := hrel
    obtain ⟨x0, x1, x2, xf, xl⟩ := B1.three
    have HV := Lib.hid hv
    clear hv
    by_cases hlt : u0 ≤ k
    · have c0 := (A1.cell (p := ⟨b, off + u0, none⟩) hbs).trans (HC.out u0 (by omega))
      have lb : b < wr.heap.size := by have := A1.size; omega
      have t0 : decide ((u0 : Int) ≤ (k : Int)) = true := decide_eq_true (by omega)
      have t1 : decide (u0 ≤ k) = true := decide_eq_true hlt
      have um : (u0 : Int) < (m : Int) := by omega
      have tW := HW.out
      have HB := Lib.hid B1
      by_cases hf : f u0 = W
      · have HRR := Lib.hid (HY.out u0 hlt ((HS.out u0).1 hu1) hf)
        rw [hf] at c0
        clear hf B1
        cases W
        all_goals
          go_wp2_with (fail)
          refine wp_region_calm (by kernel_rfl) (by kernel_rfl) ?_
          repeat (go_big_quiet_step ((fail)))
          refine wpQuiet_nil ?_
          intro _ hw'
          obtain ⟨u, rfl⟩ := hw'
          go_wp2_with (fail)
          all_goals go_ret
          all_goals exact ⟨by rw [HR.out, HRR.out]; first | rfl | simp [tW], below_call A1 u.below⟩
      · have HV2 := Lib.hid (show ∀ v, st ≤ v → v < u0 + 1 → f v ≠ W from fun v h1 h2 => by
          by_cases e : v = u0
          · rw [e]; exact hf
          · exact HV.out v h1 (by omega))
        obtain ⟨fu, hfu⟩ : ∃ x, f u0 = x := ⟨_, rfl⟩
        rw [hfu] at c0 hf
        clear hfu B1
        have hne : (fu == W) = false := by simpa using hf
        cases fu <;> cases W
        case false.false => simp at hf
        case true.true => simp at hf
        all_goals
          clear hf hne
          go_wp2_with (fail)
          refine wp_region_calm (by kernel_rfl) (by kernel_rfl) ?_
          repeat (go_big_quiet_step ((fail)))
          refine wpQuiet_nil ?_
          intro _ hw'
          obtain ⟨u, rfl⟩ := hw'
          have A2 := Lib.hid (below_call A1 u.below)
          have B2 := Lib.hid (HB.out.near u)
          clear x0 x1 x2 xf xl c0 A1 HB
          go_wp2_with (fail)
          go_roundg (k + 1 - (u0 + 1))
          case measure => omega
          case rel => exact ⟨u0 + 1, by omega, by omega, rfl, by go_num, HV2.out, A2.out, B2.out⟩
    · have t0 : decide ((u0 : Int) ≤ (k : Int)) = false := decide_eq_false (by omega)
      have t1 : decide (u0 ≤ k) = false := decide_eq_false hlt
      have HRR := Lib.hid (HN.out (fun v h1 h2 => HV.out v ((HS.out v).2 h2) (by omega)))
      have tW := HW.out
      have tn : (op != 6) = !W := by rw [← tW]; rfl
      clear B1
      cases W
      all_goals
        go_wp2_with (fail)
        all_goals go_ret
        all_goals exact ⟨by rw [HR.out, HRR.out]; first | rfl | simp [tW], A1⟩
/-- What since tells. -/
def snB (l r : Nat → Bool) (k : Nat) : Bool := decide (0 ≤ ltV r true k) && decide (ltV l false k ≤ ltV r true k)
theorem sn_yes {l r : Nat → Bool} {k u : Nat} (hu : u ≤ k) (h : r u = true) (hl : ∀ v, u < v → v ≤ k → l v = true) : snB l r k = true := by
  unfold snB
  have h1 := lt_ge r true hu h
  rw [decide_eq_true (by omega), Bool.true_and]
  refine decide_eq_true ?_
  rcases lt_two l false k with e | e
  · omega
  · obtain ⟨v, v1, v2, v3⟩ := lt_so l false e
    by_cases x : v ≤ u
    · omega
    · have := hl v (by omega) v1
      rw [v3] at this; cases this
theorem sn_no {l r : Nat → Bool} {k u : Nat} (hu : u ≤ k) (h : l u = false) (hr : ∀ v, u ≤ v → v ≤ k → r v = false) : snB l r k = false := by
  unfold snB
  have h1 := lt_ge l false hu h
  rcases lt_two r true k with e | e
  · rw [decide_eq_false (p := 0 ≤ ltV r true k) (by omega)]; rfl
  · obtain ⟨v, v1, v2, v3⟩ := lt_so r true e
    rw [decide_eq_false (p := ltV l false k ≤ ltV r true k) (by
      by_cases x : u ≤ v
      · have := hr v x v1
        rw [v3] at this; cases this
      · omega), Bool.and_false]
theorem sn_never {l r : Nat → Bool} {k : Nat} (hr : ∀ v, v ≤ k → r v = false) : snB l r k = false := by
  unfold snB
  rcases lt_two r true k with e | e
  · rw [decide_eq_false (p := 0 ≤ ltV r true k) (by omega)]; rfl
  · obtain ⟨v, v1, v2, v3⟩ := lt_so r true e
    have := hr v v1
    rw [v3] at this; cases this
set_option maxHeartbeats 4000000 in
theorem r7_since (P R : Option Addr) (m d d2 k : Nat) (l r : Nat → Bool) (w : World) (h : Vals w P m (fun i => .bool (l i))) (h2 : Vals w R m (fun i => .bool (r i))) (hk : k < m) (hm : m ≤ 100000) :
    Calls Try.prog 58 #[.slice P m d, .slice R m d2, .int .i64 (k : Int)] w fun e w' => e = .returned (.bool (snB l r k)) ∧ Below w.heap.size w w' := by
  obtain ⟨b, off, rfl, hbs, hc⟩ := h (by omega)
  obtain ⟨b2, off2, rfl, hbs2, hc2⟩ := h2 (by omega)
  have HC := Lib.hid (fun i (hi : i < m) => (show w.cell? ⟨b, off + i, none⟩ = some (.bool (l i)) from hc i hi))
  have HC2 := Lib.hid (fun i (hi : i < m) => (show w.cell? ⟨b2, off2 + i, none⟩ = some (.bool (r i)) from hc2 i hi))
  have HY := Lib.hid (fun u (hu : u ≤ k) h hl => @sn_yes l r k u hu h hl)
  have HN := Lib.hid (fun u (hu : u ≤ k) h hr => @sn_no l r k u hu h hr)
  have HX := Lib.hid (fun hr => @sn_never l r k hr)
  obtain ⟨z, hz⟩ : ∃ z, snB l r k = z := ⟨_, rfl⟩
  rw [hz] at HY HN HX
  have HZ := Lib.hid hz
  clear h h2 hc hc2 hz
  go_enter Try.func58, Try.ntmps58
  go_wp2_with (fail)
  go_loopg [7] (k + 2) (fun gk x wr => ∃ u : Nat, u ≤ k + 1 ∧ gk = u + 1 ∧ x = .int .i64 ((u : Int) - 1) ∧ (∀ v, u ≤ v → v ≤ k → l v = true ∧ r v = false) ∧ Below w.heap.size w wr)
  case atStart => exact ⟨k + 1, Nat.le_refl _, rfl, by congr 1; omega, fun v h1 h2 => by omega, Below.refl _ _⟩
  case round =>
    obtain ⟨u0, hu, rfl, rfl, hv, A1⟩ := hrel
    have HV := Lib.hid hv
    clear hv
    rcases Nat.eq_zero_or_pos u0 with e0 | e0
    · subst e0
      have HR := Lib.hid (HX.out (fun v h1 => (HV.out v (Nat.zero_le _) h1).2))
      go_wp2_with (fail)
      all_goals go_ret
      all_goals exact ⟨by rw [HZ.out, HR.out]; rfl, A1⟩
    · obtain ⟨j, rfl⟩ : ∃ j, u0 = j + 1 := ⟨u0 - 1, by omega⟩
      have ej : ((j + 1 : Nat) : Int) - 1 = (j : Int) := by omega
      rw [ej]
      have c0 := (A1.cell (p := ⟨b, off + j, none⟩) hbs).trans (HC.out j (by omega))
      have d0 := (A1.cell (p := ⟨b2, off2 + j, none⟩) hbs2).trans (HC2.out j (by omega))
      have jm : (j : Int) < (m : Int) := by omega
      have jp : (0 : Int) ≤ (j : Int) := by omega
      have wj : IntKind.i64.wrap ((j : Int) - 1) = (j : Int) - 1 := by rw [IntKind.wrap_i64]; omega
      have HYj := Lib.hid (fun (h : r j = true) => HY.out j (by omega) h (fun v h1 h2 => (HV.out v h1 h2).1))
      have HNj := Lib.hid (fun (h : l j = false) (h3 : r j = false) => HN.out j (by omega) h (fun v h1 h2 => by
        by_cases e : v = j
        · rw [e]; exact h3
        · exact (HV.out v (by omega) h2).2))
      have HVj := Lib.hid (show l j = true → r j = false → ∀ v, j ≤ v → v ≤ k → l v = true ∧ r v = false from fun h3 h4 v h1 h2 => by
        by_cases e : v = j
        · rw [e]; exact ⟨h3, h4⟩
        · exact HV.out v (by omega) h2)
      clear HV ej e0
      generalize l j = lj at *
      generalize r j = rj at *
      cases rj
      · cases lj
        · have HR := Lib.hid (HNj.out rfl rfl)
          clear HYj HNj HVj HY HN HX
          go_wp2_with (fail)
          all_goals go_ret
          all_goals exact ⟨by rw [HZ.out, HR.out]; rfl, A1⟩
        · have HV2 := Lib.hid (HVj.out rfl rfl)
          clear HYj HNj HVj
          go_wp2_with (fail)
          go_roundg (j + 1)
          case measure => omega
          case rel => exact ⟨j, by omega, rfl, rfl, HV2.out, A1⟩
      · have HR := Lib.hid (HYj.out rfl)
        clear HYj HNj HVj HY HN HX
        go_wp2_with (fail)
        all_goals go_ret
        all_goals exact ⟨by rw [HZ.out, HR.out]; rfl, A1⟩
end Go.Proofs.Ytmemhlhjkpijpaa

namespace Go.Proofs.Ytmemhlhjkpijpaa
open Go.RowKit
set_option linter.unusedVariables false
set_option linter.unusedSimpArgs false
set_option maxRecDepth 100000
attribute [local go_sem] cell_set_ite Near.cell Near.frozen

theorem rk_ways {t : Tm} (h : myB t = true) : (ndN t.op = 0 ∧ (t.op = 1 ∨ t.op = 2)) ∨ (ndN t.op = 1 ∧ (t.op = 3 ∨ t.op = 6 ∨ t.op = 7)) ∨ (ndN t.op = 2 ∧ (t.op = 4 ∨ t.op = 5 ∨ t.op = 8)) := by
  rcases my_ways h with ⟨h0, h1 | ⟨_, h1⟩⟩ | ⟨h0, _, _, h1 | ⟨_, h1⟩ | ⟨_, _, h1⟩⟩ | ⟨h0, h1, h2, h3, h6, h7⟩
  · exact .inl ⟨h0, .inl (by simpa using h1)⟩
  · exact .inl ⟨h0, .inr (by simpa using h1)⟩
  · exact .inr (.inl ⟨h0, .inl (by simpa using h1)⟩)
  · exact .inr (.inl ⟨h0, .inr (.inl (by simpa using h1))⟩)
  · exact .inr (.inl ⟨h0, .inr (.inr (by simpa using h1))⟩)
  · refine .inr (.inr ⟨h0, ?_⟩)
    have e1 : t.op ≠ 1 := by simpa using h1
    have e3 : t.op ≠ 3 := by simpa using h3
    have e6 : t.op ≠ 6 := by simpa using h6
    have e7 : t.op ≠ 7 := by simpa using h7
    unfold ndN at h0
    rw [if_neg (by omega)] at h0
    by_cases h : t.op = 4 ∨ t.op = 5 ∨ t.op = 8
    · exact h
    · rw [if_neg h] at h0; omega
theorem rk_back {t : Tm} (h : myB t = true) (h6 : t.op = 6 ∨ t.op = 7) : 0 ≤ t.a ∧ t.a ≤ 1000 := by
  unfold myB at h
  rw [if_neg (by omega), if_pos h6] at h
  simp at h
  omega
theorem so_alo (t : Tm) (os : Nat → Ou) (k : Nat) : soM os (aloM t) k = alB t (os k) := by
  unfold alB aloM
  by_cases h1 : t.op = 1
  · rw [if_pos h1, if_pos h1]; rfl
  · rw [if_neg h1, if_neg h1]
    by_cases h2 : t.a = 11
    · rw [if_pos h2, if_pos h2]; rfl
    · rw [if_neg h2, if_neg h2]; rfl
/-- Lists of truths, of m each, as they lie. -/
def Sls (w : World) (A : Option Addr) (n m : Nat) (F : Nat → Nat → Bool) : Prop := 0 < n → ∃ a o, A = some ⟨a, o, none⟩ ∧ a < w.heap.size ∧ ∀ i, i < n → ∃ P d, w.cell? ⟨a, o + i, none⟩ = some (.slice P m d) ∧ Vals w P m (fun k => .bool (F i k))
theorem Sls.below {w w' : World} {A : Option Addr} {n m : Nat} {F : Nat → Nat → Bool} (h : Sls w A n m F) (hb : Below w.heap.size w w') : Sls w' A n m F := fun h0 => by
  obtain ⟨a, o, e, hl, hc⟩ := h h0
  refine ⟨a, o, e, Nat.lt_of_lt_of_le hl hb.size, fun i hi => ?_⟩
  obtain ⟨P, d, h1, h2⟩ := hc i hi
  exact ⟨P, d, (hb.cell (p := ⟨a, o + i, none⟩) hl).trans h1, h2.below hb⟩
theorem outs_ats {w : World} {B : Option Addr} {m k : Nat} {os : Nat → Ou} (h : Outs w B m os) (hk : k < m) : ∃ b off, B = some ⟨b, off, none⟩ ∧ b < w.heap.size ∧ w.cell? ⟨b, off + k * 11, none⟩ = some (.int .i64 (os k).tick) ∧ w.cell? ⟨b, off + k * 11 + 1, none⟩ = some (.int .i64 (os k).mode) ∧ w.cell? ⟨b, off + k * 11 + 2, none⟩ = some (.int .i64 (os k).latch) ∧
    w.cell? ⟨b, off + k * 11 + 3, none⟩ = some (.int .i64 (os k).notes) ∧ w.cell? ⟨b, off + k * 11 + 4, none⟩ = some (.int .i64 (os k).level) ∧ w.cell? ⟨b, off + k * 11 + 5, none⟩ = some (.int .i64 (os k).buzzer) ∧ w.cell? ⟨b, off + k * 11 + 6, none⟩ = some (.int .i64 (os k).opn) ∧ w.cell? ⟨b, off + k * 11 + 7, none⟩ = some (.int .i64 (os k).pos) ∧
    w.cell? ⟨b, off + k * 11 + 8, none⟩ = some (.int .i64 (os k).volume) ∧ w.cell? ⟨b, off + k * 11 + 9, none⟩ = some (.bool (os k).drop) ∧ w.cell? ⟨b, off + k * 11 + 10, none⟩ = some (.string (os k).frame) := by
  obtain ⟨b, off, e, hl, hc⟩ := h (by omega)
  exact ⟨b, off, e, hl, hc k hk 0 (by omega), hc k hk 1 (by omega), hc k hk 2 (by omega), hc k hk 3 (by omega), hc k hk 4 (by omega), hc k hk 5 (by omega), hc k hk 6 (by omega), hc k hk 7 (by omega), hc k hk 8 (by omega), hc k hk 9 (by omega), hc k hk 10 (by omega)⟩
set_option maxHeartbeats 8000000 in
theorem r7_part (t : Tm) (SA B : Option Addr) (sc m d k : Nat) (S : Nat → Mn) (os : Nat → Ou) (w : World) (hmy : myB t = true) (hS : Sls w SA (ndN t.op) m (fun i => soM os (S i))) (ho : Outs w B m os) (hk : k < m) (hm : m ≤ 100000) :
    Calls Try.prog 47 #[t.val, .slice SA (ndN t.op) sc, .slice B m d, .int .i64 (k : Int)] w fun e w' => e = .returned (.bool (soM os (cmbM t S) k)) ∧ Below w.heap.size w w' := by
  obtain ⟨op, a, tb⟩ := t
  have A1 := below_alloc_on (Below.refl w.heap.size w) (.cells #[.int .i64 op, .int .i64 a, .int .i64 tb] 36)
  have km : (k : Int) < (m : Int) := by omega
  rcases rk_ways hmy with ⟨hn, h1 | h2⟩ | ⟨hn, h3 | h6⟩ | ⟨hn, h4 | h5 | h8⟩
  · dsimp only at h1 hn
    subst h1
    have hv : soM os (cmbM ⟨1, a, tb⟩ S) k = true := rfl
    rw [hv]
    unfold Tm.val
    clear hS ho hv hmy
    go_enter Try.func47, Try.ntmps47
    go_wp2_with (fail)
    all_goals go_ret
    all_goals exact ⟨rfl, A1⟩
  · dsimp only at h2 hn
    subst h2
    have hv : soM os (cmbM ⟨2, a, tb⟩ S) k = alB ⟨2, a, tb⟩ (os k) := so_alo ⟨2, a, tb⟩ os k
    rw [hv]
    have HA := Lib.hid (fun w => r7_atom a tb (os k) w)
    generalize alB ⟨2, a, tb⟩ (os k) = r at *
    obtain ⟨b, off, rfl, hl, c0, c1, c2, c3, c4, c5, c6, c7, c8, c9, c10⟩ := outs_ats ho hk
    unfold Tm.val
    unfold Ou.cells at HA
    clear hS ho hv hmy
    go_enter Try.func47, Try.ntmps47
    go_wp2_with (fail)
    refine wp_region_calm (by kernel_rfl) (by kernel_rfl) ?_
    repeat (go_big_quiet_step (((go_at_call 59; exact calm_of _ (HA.out _)))))
    refine wpQuiet_nil ?_
    intro _ hw'
    obtain ⟨u, rfl⟩ := hw'
    have A2 := below_call A1 u.below
    go_wp2_with (fail)
    all_goals go_ret
    all_goals exact ⟨rfl, A2⟩
  · dsimp only at h3 hn
    subst h3
    have hv : soM os (cmbM ⟨3, a, tb⟩ S) k = !(soM os (S 0) k) := rfl
    rw [hv]
    obtain ⟨sa, so, rfl, ls, hc⟩ := hS (show 0 < ndN 3 by decide)
    obtain ⟨P, d1, p0, hV⟩ := hc 0 (show 0 < ndN 3 by decide)
    obtain ⟨q, qo, rfl, lq, hq⟩ := hV (by omega)
    have q0 : w.cell? ⟨q, qo + k, none⟩ = some (.bool (soM os (S 0) k)) := hq k hk
    rw [Nat.add_zero] at p0
    generalize soM os (S 0) k = x at *
    unfold Tm.val
    rw [show ndN (3 : Int) = 1 from rfl]
    clear ho hv hmy hc hV hq hn
    go_enter Try.func47, Try.ntmps47
    go_wp2_with (fail)
    all_goals go_ret
    all_goals exact ⟨rfl, A1⟩
  · dsimp only at h6 hn
    obtain ⟨sa, so, rfl, ls, hc⟩ := hS (by show 0 < ndN op; omega)
    obtain ⟨P, d1, p0, hV⟩ := hc 0 (by show 0 < ndN op; omega)
    obtain ⟨ha0, ha1⟩ := rk_back hmy h6
    dsimp only at ha0 ha1
    have hv : soM os (cmbM ⟨op, a, tb⟩ S) k = bkB op a (soM os (S 0)) k := by
      unfold cmbM bkB
      dsimp only
      rw [if_neg (by omega), if_pos hn]
      unfold unaM
      dsimp only
      rcases h6 with rfl | rfl
      · rfl
      · rfl
    rw [hv]
    have HB := Lib.hid (fun w' (hb : Below w.heap.size w w') => r7_back op a tb P m d1 k (soM os (S 0)) w' (hV.below hb) hk hm h6 ha0 ha1)
    generalize bkB op a (soM os (S 0)) k = r at *
    rw [Nat.add_zero] at p0
    unfold Tm.val
    dsimp only
    rw [hn]
    clear ho hv hmy hc hV hS ha0 ha1 hn
    rcases h6 with rfl | rfl
    all_goals
      go_enter Try.func47, Try.ntmps47
      go_wp2_with (fail)
      refine wp_region_calm (by kernel_rfl) (by kernel_rfl) ?_
      repeat (go_big_quiet_step (((go_at_call 57; exact calm_of _ (HB.out _ (below_call A1 (Near.below _)))))))
      refine wpQuiet_nil ?_
      intro _ hw'
      obtain ⟨u, rfl⟩ := hw'
      have A2 := below_call A1 u.below
      go_wp2_with (fail)
      all_goals go_ret
      all_goals exact ⟨rfl, A2⟩
  · dsimp only at h4 hn
    subst h4
    have hv : soM os (cmbM ⟨4, a, tb⟩ S) k = (soM os (S 0) k && soM os (S 1) k) := rfl
    rw [hv]
    obtain ⟨sa, so, rfl, ls, hc⟩ := hS (show 0 < ndN 4 by decide)
    obtain ⟨P, d1, p0, hV⟩ := hc 0 (show 0 < ndN 4 by decide)
    obtain ⟨R, d2, p1, hW⟩ := hc 1 (show 1 < ndN 4 by decide)
    obtain ⟨q, qo, rfl, lq, hq⟩ := hV (by omega)
    obtain ⟨z, zo, rfl, lz, hz⟩ := hW (by omega)
    have q0 : w.cell? ⟨q, qo + k, none⟩ = some (.bool (soM os (S 0) k)) := hq k hk
    have z0 : w.cell? ⟨z, zo + k, none⟩ = some (.bool (soM os (S 1) k)) := hz k hk
    rw [Nat.add_zero] at p0
    generalize soM os (S 0) k = x at *
    generalize soM os (S 1) k = y at *
    unfold Tm.val
    rw [show ndN (4 : Int) = 2 from rfl]
    clear ho hv hmy hc hV hq hn hW hz
    cases x
    all_goals
      go_enter Try.func47, Try.ntmps47
      go_wp2_with (fail)
      all_goals go_ret
      all_goals exact ⟨rb_ (by simp), A1⟩
  · dsimp only at h5 hn
    subst h5
    have hv : soM os (cmbM ⟨5, a, tb⟩ S) k = (soM os (S 0) k || soM os (S 1) k) := rfl
    rw [hv]
    obtain ⟨sa, so, rfl, ls, hc⟩ := hS (show 0 < ndN 5 by decide)
    obtain ⟨P, d1, p0, hV⟩ := hc 0 (show 0 < ndN 5 by decide)
    obtain ⟨R, d2, p1, hW⟩ := hc 1 (show 1 < ndN 5 by decide)
    obtain ⟨q, qo, rfl, lq, hq⟩ := hV (by omega)
    obtain ⟨z, zo, rfl, lz, hz⟩ := hW (by omega)
    have q0 : w.cell? ⟨q, qo + k, none⟩ = some (.bool (soM os (S 0) k)) := hq k hk
    have z0 : w.cell? ⟨z, zo + k, none⟩ = some (.bool (soM os (S 1) k)) := hz k hk
    rw [Nat.add_zero] at p0
    generalize soM os (S 0) k = x at *
    generalize soM os (S 1) k = y at *
    unfold Tm.val
    rw [show ndN (5 : Int) = 2 from rfl]
    clear ho hv hmy hc hV hq hn hW hz
    cases x
    all_goals
      go_enter Try.func47, Try.ntmps47
      go_wp2_with (fail)
      all_goals go_ret
      all_goals exact ⟨rb_ (by simp), A1⟩
  · dsimp only at h8 hn
    subst h8
    have hv : soM os (cmbM ⟨8, a, tb⟩ S) k = snB (soM os (S 0)) (soM os (S 1)) k := rfl
    rw [hv]
    obtain ⟨sa, so, rfl, ls, hc⟩ := hS (show 0 < ndN 8 by decide)
    obtain ⟨P, d1, p0, hV⟩ := hc 0 (show 0 < ndN 8 by decide)
    obtain ⟨R, d2, p1, hW⟩ := hc 1 (show 1 < ndN 8 by decide)
    have HB := Lib.hid (fun w' (hb : Below w.heap.size w w') => r7_since P R m d1 d2 k (soM os (S 0)) (soM os (S 1)) w' (hV.below hb) (hW.below hb) hk hm)
    generalize snB (soM os (S 0)) (soM os (S 1)) k = r at *
    rw [Nat.add_zero] at p0
    unfold Tm.val
    rw [show ndN (8 : Int) = 2 from rfl]
    clear ho hv hmy hc hV hn hW
    go_enter Try.func47, Try.ntmps47
    go_wp2_with (fail)
    refine wp_region_calm (by kernel_rfl) (by kernel_rfl) ?_
    repeat (go_big_quiet_step (((go_at_call 58; exact calm_of _ (HB.out _ (below_call A1 (Near.below _)))))))
    refine wpQuiet_nil ?_
    intro _ hw'
    obtain ⟨u, rfl⟩ := hw'
    have A2 := below_call A1 u.below
    go_wp2_with (fail)
    all_goals go_ret
    all_goals exact ⟨rfl, A2⟩
end Go.Proofs.Ytmemhlhjkpijpaa
