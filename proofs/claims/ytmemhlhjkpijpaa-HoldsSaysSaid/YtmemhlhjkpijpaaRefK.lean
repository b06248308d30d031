/- The document's meaning: one part in one place. -/
import Derived.Test.YtmemhlhjkpijpaaRefJ
namespace Go.Proofs.Ytmemhlhjkpijpaa
open Go.RowKit
set_option linter.unusedVariables false
set_option linter.unusedSimpArgs false
set_option maxRecDepth 100000
attribute [local go_sem] cell_set_ite Near.cell Near.frozen

theorem rk_ways {t : Tm} (h : myB t = true) : (ndN t.op = 0 ∧ (t.op = 1 ∨ t.op = 2)) ∨ (ndN t.op = 1 ∧ (t.op = 3 ∨ t.op = 6 ∨ t.op = 7)) ∨ (ndN t.op = 2 ∧ (t.op = 4 ∨ t.op = 5 ∨ t.op = 8)) := by
  rcases my_ways h with ⟨h0, h1 | ⟨_, h1⟩⟩ | ⟨h0, _, _, h1 | ⟨_, h1⟩ | ⟨_, _, h1⟩⟩ | ⟨h0, h1, h2, h3, h6, h7⟩
  · exact .inl ⟨h0, .inl (by simpa using h1)⟩
  · exact .inl ⟨h0, .inr (by simpa using h1)⟩
  · exact .inr (.inl ⟨h0, .inl (by simpa using h1)⟩)
  · exact .inr (.inl ⟨h0, .inr (.inl (by simpa using h1))⟩)
  · exact .inr (.inl ⟨h0, .inr (.inr (by simpa using h1))⟩)
  · refine .inr (.inr ⟨h0, ?_⟩)
    have e1 : t.op ≠ 1 := by simpa using h1
    have e3 : t.op ≠ 3 := by simpa using h3
    have e6 : t.op ≠ 6 := by simpa using h6
    have e7 : t.op ≠ 7 := by simpa using h7
    unfold ndN at h0
    rw [if_neg (by omega)] at h0
    by_cases h : t.op = 4 ∨ t.op = 5 ∨ t.op = 8
    · exact h
    · rw [if_neg h] at h0; omega
theorem rk_back {t : Tm} (h : myB t = true) (h6 : t.op = 6 ∨ t.op = 7) : 0 ≤ t.a ∧ t.a ≤ 1000 := by
  unfold myB at h
  rw [if_neg (by omega), if_pos h6] at h
  simp at h
  omega
theorem so_alo (t : Tm) (os : Nat → Ou) (k : Nat) : soM os (aloM t) k = alB t (os k) := by
  unfold alB aloM
  by_cases h1 : t.op = 1
  · rw [if_pos h1, if_pos h1]; rfl
  · rw [if_neg h1, if_neg h1]
    by_cases h2 : t.a = 11
    · rw [if_pos h2, if_pos h2]; rfl
    · rw [if_neg h2, if_neg h2]; rfl
/-- Lists of truths, of m each, as they lie. -/
def Sls (w : World) (A : Option Addr) (n m : Nat) (F : Nat → Nat → Bool) : Prop := 0 < n → ∃ a o, A = some ⟨a, o, none⟩ ∧ a < w.heap.size ∧ ∀ i, i < n → ∃ P d, w.cell? ⟨a, o + i, none⟩ = some (.slice P m d) ∧ Vals w P m (fun k => .bool (F i k))
theorem Sls.below {w w' : World} {A : Option Addr} {n m : Nat} {F : Nat → Nat → Bool} (h : Sls w A n m F) (hb : Below w.heap.size w w') : Sls w' A n m F := fun h0 => by
  obtain ⟨a, o, e, hl, hc⟩ := h h0
  refine ⟨a, o, e, Nat.lt_of_lt_of_le hl hb.size, fun i hi => ?_⟩
  obtain ⟨P, d, h1, h2⟩ := hc i hi
  exact ⟨P, d, (hb.cell (p := ⟨a, o + i, none⟩) hl).trans h1, h2.below hb⟩
theorem outs_ats {w : World} {B : Option Addr} {m k : Nat} {os : Nat → Ou} (h : Outs w B m os) (hk : k < m) : ∃ b off, B = some ⟨b, off, none⟩ ∧ b < w.heap.size ∧ w.cell? ⟨b, off + k * 11, none⟩ = some (.int .i64 (os k).tick) ∧ w.cell? ⟨b, off + k * 11 + 1, none⟩ = some (.int .i64 (os k).mode) ∧ w.cell? ⟨b, off + k * 11 + 2, none⟩ = some (.int .i64 (os k).latch) ∧
    w.cell? ⟨b, off + k * 11 + 3, none⟩ = some (.int .i64 (os k).notes) ∧ w.cell? ⟨b, off + k * 11 + 4, none⟩ = some (.int .i64 (os k).level) ∧ w.cell? ⟨b, off + k * 11 + 5, none⟩ = some (.int .i64 (os k).buzzer) ∧ w.cell? ⟨b, off + k * 11 + 6, none⟩ = some (.int .i64 (os k).opn) ∧ w.cell? ⟨b, off + k * 11 + 7, none⟩ = some (.int .i64 (os k).pos) ∧
    w.cell? ⟨b, off + k * 11 + 8, none⟩ = some (.int .i64 (os k).volume) ∧ w.cell? ⟨b, off + k * 11 + 9, none⟩ = some (.bool (os k).drop) ∧ w.cell? ⟨b, off + k * 11 + 10, none⟩ = some (.string (os k).frame) := by
  obtain ⟨b, off, e, hl, hc⟩ := h (by omega)
  exact ⟨b, off, e, hl, hc k hk 0 (by omega), hc k hk 1 (by omega), hc k hk 2 (by omega), hc k hk 3 (by omega), hc k hk 4 (by omega), hc k hk 5 (by omega), hc k hk 6 (by omega), hc k hk 7 (by omega), hc k hk 8 (by omega), hc k hk 9 (by omega), hc k hk 10 (by omega)⟩
set_option maxHeartbeats 8000000 in
theorem r7_part (t : Tm) (SA B : Option Addr) (sc m d k : Nat) (S : Nat → Mn) (os : Nat → Ou) (w : World) (hmy : myB t = true) (hS : Sls w SA (ndN t.op) m (fun i => soM os (S i))) (ho : Outs w B m os) (hk : k < m) (hm : m ≤ 100000) :
    Calls Try.prog 47 #[t.val, .slice SA (ndN t.op) sc, .slice B m d, .int .i64 (k : Int)] w fun e w' => e = .returned (.bool (soM os (cmbM t S) k)) ∧ Below w.heap.size w w' := by
  obtain ⟨op, a, tb⟩ := t
  have A1 := below_alloc_on (Below.refl w.heap.size w) (.cells #[.int .i64 op, .int .i64 a, .int .i64 tb] 36)
  have km : (k : Int) < (m : Int) := by omega
  rcases rk_ways hmy with ⟨hn, h1 | h2⟩ | ⟨hn, h3 | h6⟩ | ⟨hn, h4 | h5 | h8⟩
  · dsimp only at h1 hn
    subst h1
    have hv : soM os (cmbM ⟨1, a, tb⟩ S) k = true := rfl
    rw [hv]
    unfold Tm.val
    clear hS ho hv hmy
    go_enter Try.func47, Try.ntmps47
    go_wp2_with (fail)
    all_goals go_ret
    all_goals exact ⟨rfl, A1⟩
  · dsimp only at h2 hn
    subst h2
    have hv : soM os (cmbM ⟨2, a, tb⟩ S) k = alB ⟨2, a, tb⟩ (os k) := so_alo ⟨2, a, tb⟩ os k
    rw [hv]
    have HA := Lib.hid (fun w => r7_atom a tb (os k) w)
    generalize alB ⟨2, a, tb⟩ (os k) = r at *
    obtain ⟨b, off, rfl, hl, c0, c1, c2, c3, c4, c5, c6, c7, c8, c9, c10⟩ := outs_ats ho hk
    unfold Tm.val
    unfold Ou.cells at HA
    clear hS ho hv hmy
    go_enter Try.func47, Try.ntmps47
    go_wp2_with (fail)
    refine wp_region_calm (by kernel_rfl) (by kernel_rfl) ?_
    repeat (go_big_quiet_step (((go_at_call 59; exact calm_of _ (HA.out _)))))
    refine wpQuiet_nil ?_
    intro _ hw'
    obtain ⟨u, rfl⟩ := hw'
    have A2 := below_call A1 u.below
    go_wp2_with (fail)
    all_goals go_ret
    all_goals exact ⟨rfl, A2⟩
  · dsimp only at h3 hn
    subst h3
    have hv : soM os (cmbM ⟨3, a, tb⟩ S) k = !(soM os (S 0) k) := rfl
    rw [hv]
    obtain ⟨sa, so, rfl, ls, hc⟩ := hS (show 0 < ndN 3 by decide)
    obtain ⟨P, d1, p0, hV⟩ := hc 0 (show 0 < ndN 3 by decide)
    obtain ⟨q, qo, rfl, lq, hq⟩ := hV (by omega)
    have q0 : w.cell? ⟨q, qo + k, none⟩ = some (.bool (soM os (S 0) k)) := hq k hk
    rw [Nat.add_zero] at p0
    generalize soM os (S 0) k = x at *
    unfold Tm.val
    rw [show ndN (3 : Int) = 1 from rfl]
    clear ho hv hmy hc hV hq hn
    go_enter Try.func47, Try.ntmps47
    go_wp2_with (fail)
    all_goals go_ret
    all_goals exact ⟨rfl, A1⟩
  · dsimp only at h6 hn
    obtain ⟨sa, so, rfl, ls, hc⟩ := hS (by show 0 < ndN op; omega)
    obtain ⟨P, d1, p0, hV⟩ := hc 0 (by show 0 < ndN op; omega)
    obtain ⟨ha0, ha1⟩ := rk_back hmy h6
    dsimp only at ha0 ha1
    have hv : soM os (cmbM ⟨op, a, tb⟩ S) k = bkB op a (soM os (S 0)) k := by
      unfold cmbM bkB
      dsimp only
      rw [if_neg (by omega), if_pos hn]
      unfold unaM
      dsimp only
      rcases h6 with rfl | rfl
      · rfl
      · rfl
    rw [hv]
    have HB := Lib.hid (fun w' (hb : Below w.heap.size w w') => r7_back op a tb P m d1 k (soM os (S 0)) w' (hV.below hb) hk hm h6 ha0 ha1)
    generalize bkB op a (soM os (S 0)) k = r at *
    rw [Nat.add_zero] at p0
    unfold Tm.val
    dsimp only
    rw [hn]
    clear ho hv hmy hc hV hS ha0 ha1 hn
    rcases h6 with rfl | rfl
    all_goals
      go_enter Try.func47, Try.ntmps47
      go_wp2_with (fail)
      refine wp_region_calm (by kernel_rfl) (by kernel_rfl) ?_
      repeat (go_big_quiet_step (((go_at_call 57; exact calm_of _ (HB.out _ (below_call A1 (Near.below _)))))))
      refine wpQuiet_nil ?_
      intro _ hw'
      obtain ⟨u, rfl⟩ := hw'
      have A2 := below_call A1 u.below
      go_wp2_with (fail)
      all_goals go_ret
      all_goals exact ⟨rfl, A2⟩
  · dsimp only at h4 hn
    subst h4
    have hv : soM os (cmbM ⟨4, a, tb⟩ S) k = (soM os (S 0) k && soM os (S 1) k) := rfl
    rw [hv]
    obtain ⟨sa, so, rfl, ls, hc⟩ := hS (show 0 < ndN 4 by decide)
    obtain ⟨P, d1, p0, hV⟩ := hc 0 (show 0 < ndN 4 by decide)
    obtain ⟨R, d2, p1, hW⟩ := hc 1 (show 1 < ndN 4 by decide)
    obtain ⟨q, qo, rfl, lq, hq⟩ := hV (by omega)
    obtain ⟨z, zo, rfl, lz, hz⟩ := hW (by omega)
    have q0 : w.cell? ⟨q, qo + k, none⟩ = some (.bool (soM os (S 0) k)) := hq k hk
    have z0 : w.cell? ⟨z, zo + k, none⟩ = some (.bool (soM os (S 1) k)) := hz k hk
    rw [Nat.add_zero] at p0
    generalize soM os (S 0) k = x at *
    generalize soM os (S 1) k = y at *
    unfold Tm.val
    rw [show ndN (4 : Int) = 2 from rfl]
    clear ho hv hmy hc hV hq hn hW hz
    cases x
    all_goals
      go_enter Try.func47, Try.ntmps47
      go_wp2_with (fail)
      all_goals go_ret
      all_goals exact ⟨rb_ (by simp), A1⟩
  · dsimp only at h5 hn
    subst h5
    have hv : soM os (cmbM ⟨5, a, tb⟩ S) k = (soM os (S 0) k || soM os (S 1) k) := rfl
    rw [hv]
    obtain ⟨sa, so, rfl, ls, hc⟩ := hS (show 0 < ndN 5 by decide)
    obtain ⟨P, d1, p0, hV⟩ := hc 0 (show 0 < ndN 5 by decide)
    obtain ⟨R, d2, p1, hW⟩ := hc 1 (show 1 < ndN 5 by decide)
    obtain ⟨q, qo, rfl, lq, hq⟩ := hV (by omega)
    obtain ⟨z, zo, rfl, lz, hz⟩ := hW (by omega)
    have q0 : w.cell? ⟨q, qo + k, none⟩ = some (.bool (soM os (S 0) k)) := hq k hk
    have z0 : w.cell? ⟨z, zo + k, none⟩ = some (.bool (soM os (S 1) k)) := hz k hk
    rw [Nat.add_zero] at p0
    generalize soM os (S 0) k = x at *
    generalize soM os (S 1) k = y at *
    unfold Tm.val
    rw [show ndN (5 : Int) = 2 from rfl]
    clear ho hv hmy hc hV hq hn hW hz
    cases x
    all_goals
      go_enter Try.func47, Try.ntmps47
      go_wp2_with (fail)
      all_goals go_ret
      all_goals exact ⟨rb_ (by simp), A1⟩
  · dsimp only at h8 hn
    subst h8
    have hv : soM os (cmbM ⟨8, a, tb⟩ S) k = snB (soM os (S 0)) (soM os (S 1)) k := rfl
    rw [hv]
    obtain ⟨sa, so, rfl, ls, hc⟩ := hS (show 0 < ndN 8 by decide)
    obtain ⟨P, d1, p0, hV⟩ := hc 0 (show 0 < ndN 8 by decide)
    obtain ⟨R, d2, p1, hW⟩ := hc 1 (show 1 < ndN 8 by decide)
    have HB := Lib.hid (fun w' (hb : Below w.heap.size w w') => r7_since P R m d1 d2 k (soM os (S 0)) (soM os (S 1)) w' (hV.below hb) (hW.below hb) hk hm)
    generalize snB (soM os (S 0)) (soM os (S 1)) k = r at *
    rw [Nat.add_zero] at p0
    unfold Tm.val
    rw [show ndN (8 : Int) = 2 from rfl]
    clear ho hv hmy hc hV hn hW
    go_enter Try.func47, Try.ntmps47
    go_wp2_with (fail)
    refine wp_region_calm (by kernel_rfl) (by kernel_rfl) ?_
    repeat (go_big_quiet_step (((go_at_call 58; exact calm_of _ (HB.out _ (below_call A1 (Near.below _)))))))
    refine wpQuiet_nil ?_
    intro _ hw'
    obtain ⟨u, rfl⟩ := hw'
    have A2 := below_call A1 u.below
    go_wp2_with (fail)
    all_goals go_ret
    all_goals exact ⟨rfl, A2⟩
end Go.Proofs.Ytmemhlhjkpijpaa
