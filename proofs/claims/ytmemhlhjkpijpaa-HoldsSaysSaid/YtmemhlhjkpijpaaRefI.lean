/- The document's formula: what it needs; looking back, since. -/
import Derived.Test.YtmemhlhjkpijpaaRefH
namespace Go.Proofs.Ytmemhlhjkpijpaa
open Go.RowKit
set_option linter.unusedVariables false
set_option linter.unusedSimpArgs false
set_option maxRecDepth 100000
attribute [local go_sem] cell_set_ite Near.cell Near.frozen

theorem par_of_one {ts : Nat → Tm} {e g g1 c : Nat} {w : World} (h : rtB ts (e + 1) = true) (hn : ndN (ts e).op = 1) (hg : g < w.heap.size) (hc : w.cell? ⟨g, 0, none⟩ = some (.slice (some ⟨g1, 0, none⟩) e c)) (hT : Terms w (some ⟨g1, 0, none⟩) e ts) (hm : e ≤ c) : PaR ts e w (some ⟨g, 0, none⟩) := by
  obtain ⟨m1, m2⟩ := mn_una h hn
  refine ⟨fun _ => .slice (some ⟨g1, 0, none⟩) e c, fun _ => 0, fun _ => e, fun _ => ⟨g, 0, rfl, hg, fun i hi => ?_⟩, fun i hi => ?_, ?_⟩
  · obtain rfl : i = 0 := by omega
    exact hc
  · exact ⟨⟨g1, c, rfl, by rw [from_zero]; exact hT, hm⟩, by rw [from_zero]; exact m1, Nat.le_refl _⟩
  · unfold cmbM
    rw [if_neg (by omega), if_pos hn]
    simp only [from_zero]
    exact m2
theorem par_of_two {ts : Nat → Tm} {e b g g1 c1 g2 c2 : Nat} {w : World} (h : rtB ts (e + 1) = true) (hn : ndN (ts e).op = 2) (hb : Bgn ts e b) (hg : g < w.heap.size)
    (hc1 : w.cell? ⟨g, 0, none⟩ = some (.slice (some ⟨g1, 0, none⟩) b c1)) (hc2 : w.cell? ⟨g, 1, none⟩ = some (.slice (some ⟨g2, 0, none⟩) (e - b) c2)) (hT1 : Terms w (some ⟨g1, 0, none⟩) b ts) (hT2 : Terms w (some ⟨g2, 0, none⟩) (e - b) (from_ ts b)) (hm1 : b ≤ c1) (hm2 : e - b ≤ c2) : PaR ts e w (some ⟨g, 0, none⟩) := by
  obtain ⟨n1, n2, n3⟩ := mn_bin h hn hb.1 hb.2.1 hb.2.2
  refine ⟨fun i => if i = 0 then .slice (some ⟨g1, 0, none⟩) b c1 else .slice (some ⟨g2, 0, none⟩) (e - b) c2, fun i => if i = 0 then 0 else b, fun i => if i = 0 then b else e - b, fun _ => ⟨g, 0, rfl, hg, fun i hi => ?_⟩, fun i hi => ?_, ?_⟩
  · rw [hn] at hi
    match i, hi with
    | 0, _ => exact hc1
    | 1, _ => exact hc2
  · rw [hn] at hi
    match i, hi with
    | 0, _ =>
      refine ⟨⟨g1, c1, rfl, ?_, hm1⟩, ?_, ?_⟩
      · show Terms w _ b (from_ ts 0)
        rw [from_zero]; exact hT1
      · show rtB (from_ ts 0) b = true
        rw [from_zero]; exact n1
      · show b ≤ e
        have := hb.1; omega
    | 1, _ => exact ⟨⟨g2, c2, rfl, hT2, hm2⟩, n2, by show e - b ≤ e; omega⟩
  · unfold cmbM
    rw [if_neg (by omega), if_neg (by omega)]
    show _ = binM _ (mnF (from_ ts 0) b) (mnF (from_ ts b) (e - b))
    rw [from_zero]
    exact n3
set_option maxHeartbeats 4000000 in
theorem r6_parts (A : Option Addr) (e c : Nat) (ts : Nat → Tm) (w : World) (h : Terms w A (e + 1) ts) (hr : rtB ts (e + 1) = true) (hc : e + 1 ≤ c) :
    Calls Try.prog 46 #[.slice A (e + 1 : Nat) c] w (PartsR ts e w) := by
  obtain ⟨h40, ho, hrd⟩ := rt_parts hr
  have hn0 := rd_next ts (Nat.lt_succ_self e) ho
  obtain ⟨hmy, hdn⟩ := hk_at ts (Nat.lt_succ_self e) ho
  have h2 := n2_of hmy
  obtain ⟨b, off, rfl, hbs, hcell⟩ := h.2 (by omega)
  have A0 : Below w.heap.size w w := Below.refl _ _
  have HR := Lib.hid (fun w' (hb : Below w.heap.size w w') => r6_right (some ⟨b, off, none⟩) (e + 1) c ts w' (h.below hb))
  have HN := Lib.hid (fun w' => r6_needs (ts e).op (ts e).a (ts e).b w')
  have HS := Lib.hid (fun w' (hb : Below w.heap.size w w') (h1 : 1 ≤ rdN ts e) => r6_start (some ⟨b, off, none⟩) (e + 1) c e ts w' (h.below hb) ho (by omega) h1 (by omega))
  have HC := Lib.hid (fun x y d w' (hb : Below w.heap.size w w') (h1 : y < x) (h2 : x ≤ e + 1) => r6_copied (some ⟨b, off + y * 3, none⟩) (x - y) d (from_ ts y) w' ((h.below hb).part h2 (by omega)) (by omega) (by omega))
  have C0 := Lib.hid (fun w' (hb : Below w.heap.size w w') => (hb.cell (p := ⟨b, off + e * 3, none⟩) hbs).trans (hcell e (by omega)).1)
  have C1 := Lib.hid (fun w' (hb : Below w.heap.size w w') => (hb.cell (p := ⟨b, off + e * 3 + 1, none⟩) hbs).trans (hcell e (by omega)).2.1)
  have C2 := Lib.hid (fun w' (hb : Below w.heap.size w w') => (hb.cell (p := ⟨b, off + e * 3 + 2, none⟩) hbs).trans (hcell e (by omega)).2.2)
  have HRT := Lib.hid hr
  have we : IntKind.i64.wrap (((e + 1 : Nat) : Int) - 1) = (e : Int) := by rw [IntKind.wrap_i64]; omega
  rw [hr] at HR
  rw [h2] at HN
  have HRD := Lib.hid (show rdN ts e = ndN (ts e).op by omega)
  clear h hr hcell ho hrd hn0 hmy h2 hdn
  go_enter Try.func46, Try.ntmps46
  go_wp2_with (fail)
  refine (HR.out _ A0).mono ?_
  rintro r w1 ⟨rfl, hb⟩
  have A1 := below_call A0 hb
  have c0 := C0.out _ A1
  have c1 := C1.out _ A1
  have c2 := C2.out _ A1
  have hlw := A1.size
  have hbw : b < w1.heap.size := by omega
  have ee : (e : Int) < ((e + 1 : Nat) : Int) := by omega
  have hec : (e : Int) ≤ (c : Int) := by omega
  clear hb A0 HR C0 C1 C2
  rcases nd_ways (ts e).op with hn | hn | hn
  · have HX := Lib.hid (fun w' => par_none HRT.out hn w' none)
    have HNN := Lib.hid hn
    rw [hn] at HN
    clear hn
    go_wp2_with (go_at_call 45; refine (HN.out _).mono ?_; rintro r w3 ⟨rfl, hb⟩; have A3 := below_call A1 hb; clear hb)
    all_goals go_ret
    all_goals exact ⟨none, 0, by rw [HNN.out]; rfl, HX.out _, A3⟩
  · have HX := Lib.hid (fun w g g1 c a1 a2 a3 a4 => @par_of_one ts e g g1 c w HRT.out hn a1 a2 a3 a4)
    have HNN := Lib.hid hn
    have hrd := HRD.out
    have e0 : 0 < e := by have := rdN_le ts e; omega
    rw [hn] at HN
    clear hn hrd
    have H0 := Lib.hid (fun w' (hb : Below w.heap.size w w') => HC.out e 0 c w' hb e0 (by omega))
    simp only [Nat.zero_mul, Nat.add_zero, Nat.sub_zero, from_zero] at H0
    go_wp2_with (go_at_call 45; refine (HN.out _).mono ?_; rintro r w3 ⟨rfl, hb⟩; have A3 := below_call A1 hb; clear hb)
    refine (H0.out _ A3).mono ?_
    rintro r w4 ⟨g1, c4, rfl, T4, _, l4, hb, hm4⟩
    have A4 := below_call A3 hb
    have HT4 := Lib.hid T4
    have HM4 := Lib.hid hm4
    clear hb T4 hm4 A3
    go_wp2_with (fail)
    all_goals go_ret
    all_goals exact ⟨_, 1, by rw [HNN.out]; rfl, HX.out _ _ _ _ (by simp) (by first | rfl | simp) (HT4.out.below (below_alloc_on (Below.refl _ _) _)) HM4.out, below_alloc_on A4 _⟩
  · have HX := Lib.hid (fun w b g g1 c1 g2 c2 a1 a2 a3 a4 a5 a6 a7 a8 => @par_of_two ts e b g g1 c1 g2 c2 w HRT.out hn a1 a2 a3 a4 a5 a6 a7 a8)
    have HNN := Lib.hid hn
    have hrd := HRD.out
    have hre : 1 ≤ rdN ts e := by omega
    rw [hn] at HN
    clear hn hrd
    have we2 : IntKind.i64.wrap ((e : Int) - 1) = (e : Int) - 1 := by rw [IntKind.wrap_i64]; omega
    go_wp2_with (go_at_call 45; refine (HN.out _).mono ?_; rintro r w3 ⟨rfl, hb⟩; have A3 := below_call A1 hb; clear hb)
    refine (HS.out _ A3 hre).mono ?_
    rintro r w4 ⟨b1, rfl, hB, hb⟩
    have A4 := below_call A3 hb
    have hb1 := hB.1
    have b0 : 0 < b1 := by
      rcases Nat.eq_zero_or_pos b1 with e1 | e1
      · have h3 := hB.2.1
        rw [e1, HRD.out, HNN.out] at h3
        have : rdN ts 0 = 0 := rfl
        omega
      · exact e1
    have HB := Lib.hid hB
    have k1 : (b1 : Int) ≤ (c : Int) := by omega
    have k2 : (b1 : Int) ≤ (e : Int) := by omega
    have k3 : (0 : Int) ≤ (b1 : Int) := by omega
    have k4 : ¬ c = b1 := by omega
    have H0 := Lib.hid (fun w' (hb : Below w.heap.size w w') => HC.out b1 0 c w' hb b0 (by omega))
    simp only [Nat.zero_mul, Nat.add_zero, Nat.sub_zero, from_zero] at H0
    have H1 := Lib.hid (fun w' (hb : Below w.heap.size w w') => HC.out e b1 (c - b1) w' hb hb1 (by omega))
    clear hb hB A3 HC HS HN we2 hre
    go_wp2_with (fail)
    first
    | go_region_law (first
      | ((go_simp; go_at_call 55; ((with_reducible refine (H0.out _ (Below.drew A4)).mono ?_); rintro r w5 ⟨g1, c5, rfl, T5, _, l5, hb, hm5⟩); (have A5 := below_call (Below.drew A4) hb); (have HT5 := Lib.hid T5); (have HM5 := Lib.hid hm5); clear hb T5 hm5))
      | ((go_simp; go_at_call 55; ((with_reducible refine (H1.out _ A5).mono ?_); rintro r w6 ⟨g2, c6, rfl, T6, _, l6, hb, hm6⟩); (have A6 := below_call A5 hb); (have HT5b := Lib.hid (HT5.out.below hb)); (have HT6 := Lib.hid T6); (have HM6 := Lib.hid hm6); clear hb T6 hm6)))
    | fail
    all_goals
      clear H0 H1
      go_wp2_with (fail)
      all_goals go_ret
      all_goals exact ⟨_, 2, by rw [HNN.out]; rfl, HX.out _ _ _ _ _ _ _ HB.out (by simp) (by first | rfl | simp) (by first | rfl | simp) (HT5b.out.below (below_alloc_on (Below.refl _ _) _)) (HT6.out.below (below_alloc_on (Below.refl _ _) _)) HM5.out HM6.out, below_alloc_on A6 _⟩

/-- The last place is no earlier than any at which it is so; and it is so there. -/
theorem lt_ge (f : Nat → Bool) (b : Bool) : ∀ {k u : Nat}, u ≤ k → f u = b → (u : Int) ≤ ltV f b k
  | 0, u, h, hf => by
    obtain rfl : u = 0 := by omega
    unfold ltV; rw [if_pos hf]; omega
  | k + 1, u, h, hf => by
    unfold ltV
    by_cases e : f (k + 1) = b
    · rw [if_pos e]; omega
    · rw [if_neg e]
      have : u ≠ k + 1 := fun x => e (x ▸ hf)
      exact lt_ge f b (by omega) hf
theorem lt_so (f : Nat → Bool) (b : Bool) : ∀ {k : Nat}, 0 ≤ ltV f b k → ∃ u, u ≤ k ∧ ltV f b k = (u : Int) ∧ f u = b
  | 0, h => by
    unfold ltV at h ⊢
    by_cases e : f 0 = b
    · exact ⟨0, Nat.le_refl _, by rw [if_pos e]; rfl, e⟩
    · rw [if_neg e] at h; omega
  | k + 1, h => by
    unfold ltV at h ⊢
    by_cases e : f (k + 1) = b
    · exact ⟨k + 1, Nat.le_refl _, by rw [if_pos e], e⟩
    · rw [if_neg e] at h ⊢
      obtain ⟨u, h1, h2, h3⟩ := lt_so f b (k := k) h
      exact ⟨u, by omega, h2, h3⟩
/-- It was so within the last a ticks just if the last place is there. -/
theorem lt_within {f : Nat → Bool} {b : Bool} {k u : Nat} {a : Int} (hu : u ≤ k) (hs : (k : Int) - a ≤ u) (h : f u = b) : (k : Int) - ltV f b k ≤ a := by
  have := lt_ge f b hu h
  omega
theorem lt_without {f : Nat → Bool} {b : Bool} {k : Nat} {a : Int} (ha : a ≤ 1000) (h : ∀ u, u ≤ k → (k : Int) - a ≤ u → f u ≠ b) : a < (k : Int) - ltV f b k := by
  rcases lt_two f b k with e | e
  · omega
  · obtain ⟨u, h1, h2, h3⟩ := lt_so f b e
    by_cases x : (k : Int) - a ≤ u
    · exact absurd h3 (h u h1 x)
    · omega
end Go.Proofs.Ytmemhlhjkpijpaa
