/- The document's formula: where a part begins, a copy, what a formula needs. The document's formula: what it needs; looking back, since. -/
import Derived.Test.YtmemhlhjkpijpaaHolC
import Derived.Test.YtmemhlhjkpijpaaRef58B

namespace Go.Proofs.Ytmemhlhjkpijpaa
open Go.RowKit
set_option linter.unusedVariables false
set_option linter.unusedSimpArgs false
set_option maxRecDepth 100000
attribute [local go_sem] cell_set_ite Near.cell Near.frozen

def StaR (ts : Nat → Tm) (e : Nat) (w : World) (r : Ending) (w' : World) : Prop := ∃ b : Nat, r = .returned (.int .i64 b) ∧ Bgn ts e b ∧ Below w.heap.size w w'
set_option maxHeartbeats 4000000 in
theorem r6_start (A : Option Addr) (n c e : Nat) (ts : Nat → Tm) (w : World) (h : Terms w A n ts) (ho : okB ts n = true) (he : e ≤ n) (h1 : 1 ≤ rdN ts e) (hn : n ≤ 100000) :
    Calls Try.prog 56 #[.slice A n c, .int .i64 ((e : Int) - 1)] w (StaR ts e w) := by
  have HI := Lib.hid (fun w' (hb : Below w.heap.size w w') => h.below hb)
  have HO := Lib.hid (fun k (hk : k < n) => rd_next ts hk ho)
  have HK := Lib.hid (fun k (hk : k < n) => hk_at ts hk ho)
  have HN := Lib.hid (fun k (hk : k < n) => n2_of (hk_at ts hk ho).1)
  have H2 := Lib.hid (fun op a b w => r6_needs op a b w)
  have A0 : Below w.heap.size w w := Below.refl _ _
  have e1 : 1 ≤ e := by have := rdN_le ts e; omega
  clear h ho
  go_enter Try.func56, Try.ntmps56
  go_wp2_with (fail)
  go_loopg [5, 6] e (fun gk y x wr => ∃ k : Nat, k + 1 ≤ e ∧ gk = k + 1 ∧ x = .int .i64 k ∧ y = .int .i64 ((1 + rdN ts (k + 1) : Nat) - (rdN ts e : Nat) : Int) ∧ rdN ts e ≤ rdN ts (k + 1) ∧ (∀ q, k < q → q ≤ e → rdN ts e ≤ rdN ts q) ∧ Below w.heap.size w wr)
  case atStart =>
    refine ⟨e - 1, by omega, by omega, ?_, ?_, ?_, fun q h1 h2 => ?_, A0⟩
    · congr 1; omega
    · rw [show e - 1 + 1 = e by omega]; congr 1; omega
    · rw [show e - 1 + 1 = e by omega]; omega
    · obtain rfl : q = e := by omega
      omega
  case round =>
    clear A0
    obtain ⟨k, hk, rfl, rfl, rfl, hle, hq, A1⟩ := hrel
    have HQ := Lib.hid hq
    clear hq
    obtain ⟨b, off, rfl, hbs, hcell⟩ := (HI.out _ A1).2 (by omega)
    obtain ⟨c0, c1, c2⟩ := hcell k (by omega)
    have hx := HO.out k (by omega)
    have hd := (HK.out k (by omega)).2
    have h2 := HN.out k (by omega)
    have hnl := nd_le (ts k).op
    have hrk := rdN_le ts k
    have hre := rdN_le ts e
    have hrk1 := rdN_le ts (k + 1)
    have w1 : IntKind.i64.wrap ((ndN (ts k).op : Int) - 1) = (ndN (ts k).op : Int) - 1 := by rw [IntKind.wrap_i64]; omega
    have w2 : IntKind.i64.wrap (((1 + rdN ts (k + 1) : Nat) - (rdN ts e : Nat) : Int) + ((ndN (ts k).op : Int) - 1)) = ((1 + rdN ts k : Nat) - (rdN ts e : Nat) : Int) := by rw [IntKind.wrap_i64]; omega
    have kp : (0 : Int) ≤ (k : Int) := by omega
    have kl : (k : Int) < (n : Int) := by omega
    have wk : IntKind.i64.wrap ((k : Int) - 1) = (k : Int) - 1 := by rw [IntKind.wrap_i64]; omega
    have HC := Lib.hid (fun w' => H2.out (ts k).op (ts k).a (ts k).b w')
    rw [h2] at HC
    by_cases hz : rdN ts k + 1 = rdN ts e
    · have HB := Lib.hid (show Bgn ts e k from ⟨by omega, hz, HQ.out⟩)
      have tz : ((1 + rdN ts k : Nat) - (rdN ts e : Nat) : Int) = 0 := by omega
      rw [tz] at w2
      clear HQ hcell hx hd h2 hz hle hrk hre hrk1 tz hnl HK HN HO
      generalize ((1 + rdN ts (k + 1) : Nat) - (rdN ts e : Nat) : Int) = y0 at *
      go_wp2_with (go_at_call 45; refine (HC.out _).mono ?_; rintro r w3 ⟨rfl, hb⟩; have A3 := below_call A1 hb; clear hb)
      all_goals go_ret
      all_goals exact ⟨k, rfl, HB.out, A3⟩
    · have k0 : 0 < k := by
        rcases Nat.eq_zero_or_pos k with e0 | e0
        · subst e0
          have : rdN ts 0 = 0 := rfl
          omega
        · exact e0
      have HQ2 := Lib.hid (show ∀ q, k - 1 < q → q ≤ e → rdN ts e ≤ rdN ts q from fun q h1 h2 => by
        by_cases e1 : q = k
        · rw [e1]; omega
        · exact HQ.out q (by omega) h2)
      have HR := Lib.hid (show rdN ts e ≤ rdN ts k by omega)
      have tz : (((1 + rdN ts k : Nat) - (rdN ts e : Nat) : Int) == 0) = false := by simp; omega
      obtain ⟨y1, hy1⟩ : ∃ y1, ((1 + rdN ts k : Nat) - (rdN ts e : Nat) : Int) = y1 := ⟨_, rfl⟩
      have HY := Lib.hid hy1
      rw [hy1] at w2 tz
      clear HQ hcell hx hd h2 hz hle hrk hre hrk1 hnl HK HN HO hy1
      generalize ((1 + rdN ts (k + 1) : Nat) - (rdN ts e : Nat) : Int) = y0 at *
      go_wp2_with (go_at_call 45; refine (HC.out _).mono ?_; rintro r w3 ⟨rfl, hb⟩; have A3 := below_call A1 hb; clear hb)
      go_roundg k
      case measure => omega
      case rel => exact ⟨k - 1, by omega, by omega, by congr 1; omega, by rw [← HY.out, show k - 1 + 1 = k by omega], by rw [show k - 1 + 1 = k by omega]; exact HR.out, HQ2.out, A3⟩

/-- 'append' of one part. -/
theorem app_term {ops : Array Oper} {rest : List Oper} {o : Oper} {a : Act} {Q : Exit → Act → World → Prop} {w : World} (hgd : o.guard = none) (s x : Operand)
    (ho : o.op = .call { callee := .builtin .append, args := #[s, x], argTypes := #[22, 22] }) {base n : Nat} {cs : List Value} {v : Value} (t : Tm)
    (hs : a.eval s = v) (hx : a.eval x = .slice (some ⟨w.heap.size, 0, none⟩) 1 1) (hown : w.ownsRow base 36 3 v n cs) (hb : base ≤ w.heap.size) (hn : n ≤ 100000)
    (hK : ∀ v' w', w'.ownsRow base 36 3 v' (n + 1) (cs ++ [.int .i64 t.op, .int .i64 t.a, .int .i64 t.b]) → (w.alloc (.cells #[.int .i64 t.op, .int .i64 t.a, .int .i64 t.b] 36)).grownBy w' v.ownBlock → wpList Try.prog ops Q rest (a.put o.dst v') w') :
    wpList Try.prog ops Q (o :: rest) a (w.alloc (.cells #[.int .i64 t.op, .int .i64 t.a, .int .i64 t.b] 36)) := by
  obtain ⟨i0, hi0, hz0, hz1, hz2⟩ := info_parts term_info
  refine wpList_append_own _ hgd s x 22 ho base 36 i0 _ 3 24 Try.underlying22 hi0 hz0 hz1 hz2 rfl (by decide) v n cs hs (hown.alloc _) ⟨w.heap.size, 0, none⟩ 1 1 [.int .i64 t.op, .int .i64 t.a, .int .i64 t.b] hx rfl ?_ ?_ (by unfold maxLen; omega) (by omega) (by simp; omega) (fun v' w' h1 h2 _ => hK v' w' h1 h2)
  · intro j u hj
    match j, hj with
    | 0, hj => simp at hj; subst hj; simp [Addr.add]
    | 1, hj => simp at hj; subst hj; simp [Addr.add]
    | 2, hj => simp at hj; subst hj; simp [Addr.add]
  · intro u hu; simp at hu; rcases hu with rfl | rfl | rfl <;> rfl
set_option maxHeartbeats 2000000 in
theorem r6_copied (A : Option Addr) (n c : Nat) (ts : Nat → Tm) (w : World) (h : Terms w A n ts) (h0 : 0 < n) (hn : n ≤ 100000) :
    Calls Try.prog 55 #[.slice A n c] w (CloR ts n w) := by
  have HI := Lib.hid (fun w' (hb : Below w.heap.size w w') => h.below hb)
  have HBD := Lib.hid h.1
  clear h
  go_enter Try.func55, Try.ntmps55
  go_wp2_with (fail)
  go_loopg [3, 4, 7] n (fun gk v y i wr => ∃ k : Nat, k ≤ n ∧ gk = n - k ∧ i = .int .i64 k ∧ wr.ownsRow w.heap.size 36 3 v k (tmL ts k) ∧ Below w.heap.size w wr)
  case atStart => exact ⟨0, by omega, rfl, rfl, World.ownsRow_nil _ _ _ _, Below.refl _ _⟩
  case round =>
    obtain ⟨k, hk, rfl, rfl, hown, A1⟩ := hrel
    by_cases hlt : k < n
    · obtain ⟨b, off, rfl, hbs, hcell⟩ := (HI.out _ A1).2 (by omega)
      obtain ⟨c0, c1, c2⟩ := hcell k hlt
      have HO := Lib.hid hown
      have sz := A1.size
      have HNX := Lib.hid (show tmL ts (k + 1) = tmL ts k ++ [.int .i64 (ts k).op, .int .i64 (ts k).a, .int .i64 (ts k).b] from rfl)
      clear hown hcell
      obtain ⟨t, ht⟩ : ∃ t, ts k = t := ⟨_, rfl⟩
      rw [ht] at c0 c1 c2 HNX
      clear ht
      go_wp2_with (at_builtin; refine app_term rfl _ _ rfl t rfl rfl HO.out sz (by omega) ?_)
      intro v' w3 h1 h2
      have O3 := Lib.hid h1
      have A3 := Lib.hid (show Below w.heap.size w w3 from (below_alloc_on A1 _).grown h2 (by simp; omega) (fun q hq => (HO.out.lt q hq).1))
      clear h1 h2
      go_wp2_with (fail)
      go_roundg (n - (k + 1))
      case measure => omega
      case rel => exact ⟨k + 1, by omega, by omega, by go_num, by rw [HNX.out]; exact O3.out, A3.out⟩
    · obtain rfl : k = n := by omega
      obtain ⟨P, d, rfl, hkd⟩ : ∃ B d, u3 = .slice B k d ∧ k ≤ d := by
        rcases hown.2 with ⟨hv, e0⟩ | ⟨g, cap, cur, hv, _, _, hnc, _⟩
        · omega
        · exact ⟨_, cap, hv, hnc⟩
      obtain ⟨g, rfl, hT, hge, hlg⟩ := Terms.of_own HBD.out hown h0
      have HX := Lib.hid (show Terms wr (some ⟨g, 0, none⟩) k ts ∧ w.heap.size ≤ g ∧ g < wr.heap.size ∧ Below w.heap.size w wr ∧ k ≤ d from ⟨hT, hge, hlg, A1, hkd⟩)
      clear hown hT HBD hkd
      go_wp2_with (fail)
      all_goals go_ret
      all_goals exact ⟨g, d, rfl, HX.out⟩
end Go.Proofs.Ytmemhlhjkpijpaa

namespace Go.Proofs.Ytmemhlhjkpijpaa
open Go.RowKit
set_option linter.unusedVariables false
set_option linter.unusedSimpArgs false
set_option maxRecDepth 100000
attribute [local go_sem] cell_set_ite Near.cell Near.frozen

theorem par_of_one {ts : Nat → Tm} {e g g1 c : Nat} {w : World} (h : rtB ts (e + 1) = true) (hn : ndN (ts e).op = 1) (hg : g < w.heap.size) (hc : w.cell? ⟨g, 0, none⟩ = some (.slice (some ⟨g1, 0, none⟩) e c)) (hT : Terms w (some ⟨g1, 0, none⟩) e ts) (hm : e ≤ c) : PaR ts e w (some ⟨g, 0, none⟩) := by
  obtain ⟨m1, m2⟩ := mn_una h hn
  refine ⟨fun _ => .slice (some ⟨g1, 0, none⟩) e c, fun _ => 0, fun _ => e, fun _ => ⟨g, 0, rfl, hg, fun i hi => ?_⟩, fun i hi => ?_, ?_⟩
  · obtain rfl : i = 0 := by omega
    exact hc
  · exact ⟨⟨g1, c, rfl, by rw [from_zero]; exact hT, hm⟩, by rw [from_zero]; exact m1, Nat.le_refl _⟩
  · unfold cmbM
    rw [if_neg (by omega), if_pos hn]
    simp only [from_zero]
    exact m2
theorem par_of_two {ts : Nat → Tm} {e b g g1 c1 g2 c2 : Nat} {w : World} (h : rtB ts (e + 1) = true) (hn : ndN (ts e).op = 2) (hb : Bgn ts e b) (hg : g < w.heap.size)
    (hc1 : w.cell? ⟨g, 0, none⟩ = some (.slice (some ⟨g1, 0, none⟩) b c1)) (hc2 : w.cell? ⟨g, 1, none⟩ = some (.slice (some ⟨g2, 0, none⟩) (e - b) c2)) (hT1 : Terms w (some ⟨g1, 0, none⟩) b ts) (hT2 : Terms w (some ⟨g2, 0, none⟩) (e - b) (from_ ts b)) (hm1 : b ≤ c1) (hm2 : e - b ≤ c2) : PaR ts e w (some ⟨g, 0, none⟩) := by
  obtain ⟨n1, n2, n3⟩ := mn_bin h hn hb.1 hb.2.1 hb.2.2
  refine ⟨fun i => if i = 0 then .slice (some ⟨g1, 0, none⟩) b c1 else .slice (some ⟨g2, 0, none⟩) (e - b) c2, fun i => if i = 0 then 0 else b, fun i => if i = 0 then b else e - b, fun _ => ⟨g, 0, rfl, hg, fun i hi => ?_⟩, fun i hi => ?_, ?_⟩
  · rw [hn] at hi
    match i, hi with
    | 0, _ => exact hc1
    | 1, _ => exact hc2
  · rw [hn] at hi
    match i, hi with
    | 0, _ =>
      refine ⟨⟨g1, c1, rfl, ?_, hm1⟩, ?_, ?_⟩
      · show Terms w _ b (from_ ts 0)
        rw [from_zero]; exact hT1
      · show rtB (from_ ts 0) b = true
        rw [from_zero]; exact n1
      · show b ≤ e
        have := hb.1; omega
    | 1, _ => exact ⟨⟨g2, c2, rfl, hT2, hm2⟩, n2, by show e - b ≤ e; omega⟩
  · unfold cmbM
    rw [if_neg (by omega), if_neg (by omega)]
    show _ = binM _ (mnF (from_ ts 0) b) (mnF (from_ ts b) (e - b))
    rw [from_zero]
    exact n3
set_option maxHeartbeats 4000000 in
theorem r6_parts (A : Option Addr) (e c : Nat) (ts : Nat → Tm) (w : World) (h : Terms w A (e + 1) ts) (hr : rtB ts (e + 1) = true) (hc : e + 1 ≤ c) :
    Calls Try.prog 46 #[.slice A (e + 1 : Nat) c] w (PartsR ts e w) := by
  obtain ⟨h40, ho, hrd⟩ := rt_parts hr
  have hn0 := rd_next ts (Nat.lt_succ_self e) ho
  obtain ⟨hmy, hdn⟩ := hk_at ts (Nat.lt_succ_self e) ho
  have h2 := n2_of hmy
  obtain ⟨b, off, rfl, hbs, hcell⟩ := h.2 (by omega)
  have A0 : Below w.heap.size w w := Below.refl _ _
  have HR := Lib.hid (fun w' (hb : Below w.heap.size w w') => r6_right (some ⟨b, off, none⟩) (e + 1) c ts w' (h.below hb))
  have HN := Lib.hid (fun w' => r6_needs (ts e).op (ts e).a (ts e).b w')
  have HS := Lib.hid (fun w' (hb : Below w.heap.size w w') (h1 : 1 ≤ rdN ts e) => r6_start (some ⟨b, off, none⟩) (e + 1) c e ts w' (h.below hb) ho (by omega) h1 (by omega))
  have HC := Lib.hid (fun x y d w' (hb : Below w.heap.size w w') (h1 : y < x) (h2 : x ≤ e + 1) => r6_copied (some ⟨b, off + y * 3, none⟩) (x - y) d (from_ ts y) w' ((h.below hb).part h2 (by omega)) (by omega) (by omega))
  have C0 := Lib.hid (fun w' (hb : Below w.heap.size w w') => (hb.cell (p := ⟨b, off + e * 3, none⟩) hbs).trans (hcell e (by omega)).1)
  have C1 := Lib.hid (fun w' (hb : Below w.heap.size w w') => (hb.cell (p := ⟨b, off + e * 3 + 1, none⟩) hbs).trans (hcell e (by omega)).2.1)
  have C2 := Lib.hid (fun w' (hb : Below w.heap.size w w') => (hb.cell (p := ⟨b, off + e * 3 + 2, none⟩) hbs).trans (hcell e (by omega)).2.2)
  have HRT := Lib.hid hr
  have we : IntKind.i64.wrap (((e + 1 : Nat) : Int) - 1) = (e : Int) := by rw [IntKind.wrap_i64]; omega
  rw [hr] at HR
  rw [h2] at HN
  have HRD := Lib.hid (show rdN ts e = ndN (ts e).op by omega)
  clear h hr hcell ho hrd hn0 hmy h2 hdn
  go_enter Try.func46, Try.ntmps46
  go_wp2_with (fail)
  refine (HR.out _ A0).mono ?_
  rintro r w1 ⟨rfl, hb⟩
  have A1 := below_call A0 hb
  have c0 := C0.out _ A1
  have c1 := C1.out _ A1
  have c2 := C2.out _ A1
  have hlw := A1.size
  have hbw : b < w1.heap.size := by omega
  have ee : (e : Int) < ((e + 1 : Nat) : Int) := by omega
  have hec : (e : Int) ≤ (c : Int) := by omega
  clear hb A0 HR C0 C1 C2
  rcases nd_ways (ts e).op with hn | hn | hn
  · have HX := Lib.hid (fun w' => par_none HRT.out hn w' none)
    have HNN := Lib.hid hn
    rw [hn] at HN
    clear hn
    go_wp2_with (go_at_call 45; refine (HN.out _).mono ?_; rintro r w3 ⟨rfl, hb⟩; have A3 := below_call A1 hb; clear hb)
    all_goals go_ret
    all_goals exact ⟨none, 0, by rw [HNN.out]; rfl, HX.out _, A3⟩
  · have HX := Lib.hid (fun w g g1 c a1 a2 a3 a4 => @par_of_one ts e g g1 c w HRT.out hn a1 a2 a3 a4)
    have HNN := Lib.hid hn
    have hrd := HRD.out
    have e0 : 0 < e := by have := rdN_le ts e; omega
    rw [hn] at HN
    clear hn hrd
    have H0 := Lib.hid (fun w' (hb : Below w.heap.size w w') => HC.out e 0 c w' hb e0 (by omega))
    simp only [Nat.zero_mul, Nat.add_zero, Nat.sub_zero, from_zero] at H0
    go_wp2_with (go_at_call 45; refine (HN.out _).mono ?_; rintro r w3 ⟨rfl, hb⟩; have A3 := below_call A1 hb; clear hb)
    refine (H0.out _ A3).mono ?_
    rintro r w4 ⟨g1, c4, rfl, T4, _, l4, hb, hm4⟩
    have A4 := below_call A3 hb
    have HT4 := Lib.hid T4
    have HM4 := Lib.hid hm4
    clear hb T4 hm4 A3
    go_wp2_with (fail)
    all_goals go_ret
    all_goals exact ⟨_, 1, by rw [HNN.out]; rfl, HX.out _ _ _ _ (by simp) (by first | rfl | simp) (HT4.out.below (below_alloc_on (Below.refl _ _) _)) HM4.out, below_alloc_on A4 _⟩
  · have HX := Lib.hid (fun w b g g1 c1 g2 c2 a1 a2 a3 a4 a5 a6 a7 a8 => @par_of_two ts e b g g1 c1 g2 c2 w HRT.out hn a1 a2 a3 a4 a5 a6 a7 a8)
    have HNN := Lib.hid hn
    have hrd := HRD.out
    have hre : 1 ≤ rdN ts e := by omega
    rw [hn] at HN
    clear hn hrd
    have we2 : IntKind.i64.wrap ((e : Int) - 1) = (e : Int) - 1 := by rw [IntKind.wrap_i64]; omega
    go_wp2_with (go_at_call 45; refine (HN.out _).mono ?_; rintro r w3 ⟨rfl, hb⟩; have A3 := below_call A1 hb; clear hb)
    refine (HS.out _ A3 hre).mono ?_
    rintro r w4 ⟨b1, rfl, hB, hb⟩
    have A4 := below_call A3 hb
    have hb1 := hB.1
    have b0 : 0 < b1 := by
      rcases Nat.eq_zero_or_pos b1 with e1 | e1
      · have h3 := hB.2.1
        rw [e1, HRD.out, HNN.out] at h3
        have : rdN ts 0 = 0 := rfl
        omega
      · exact e1
    have HB := Lib.hid hB
    have k1 : (b1 : Int) ≤ (c : Int) := by omega
    have k2 : (b1 : Int) ≤ (e : Int) := by omega
    have k3 : (0 : Int) ≤ (b1 : Int) := by omega
    have k4 : ¬ c = b1 := by omega
    have H0 := Lib.hid (fun w' (hb : Below w.heap.size w w') => HC.out b1 0 c w' hb b0 (by omega))
    simp only [Nat.zero_mul, Nat.add_zero, Nat.sub_zero, from_zero] at H0
    have H1 := Lib.hid (fun w' (hb : Below w.heap.size w w') => HC.out e b1 (c - b1) w' hb hb1 (by omega))
    clear hb hB A3 HC HS HN we2 hre
    go_wp2_with (fail)
    first
    | go_region_law (first
      | ((go_simp; go_at_call 55; ((with_reducible refine (H0.out _ (Below.drew A4)).mono ?_); rintro r w5 ⟨g1, c5, rfl, T5, _, l5, hb, hm5⟩); (have A5 := below_call (Below.drew A4) hb); (have HT5 := Lib.hid T5); (have HM5 := Lib.hid hm5); clear hb T5 hm5))
      | ((go_simp; go_at_call 55; ((with_reducible refine (H1.out _ A5).mono ?_); rintro r w6 ⟨g2, c6, rfl, T6, _, l6, hb, hm6⟩); (have A6 := below_call A5 hb); (have HT5b := Lib.hid (HT5.out.below hb)); (have HT6 := Lib.hid T6); (have HM6 := Lib.hid hm6); clear hb T6 hm6)))
    | fail
    all_goals
      clear H0 H1
      go_wp2_with (fail)
      all_goals go_ret
      all_goals exact ⟨_, 2, by rw [HNN.out]; rfl, HX.out _ _ _ _ _ _ _ HB.out (by simp) (by first | rfl | simp) (by first | rfl | simp) (HT5b.out.below (below_alloc_on (Below.refl _ _) _)) (HT6.out.below (below_alloc_on (Below.refl _ _) _)) HM5.out HM6.out, below_alloc_on A6 _⟩

/-- The last place is no earlier than any at which it is so; and it is so there. -/
theorem lt_ge (f : Nat → Bool) (b : Bool) : ∀ {k u : Nat}, u ≤ k → f u = b → (u : Int) ≤ ltV f b k
  | 0, u, h, hf => by
    obtain rfl : u = 0 := by omega
    unfold ltV; rw [if_pos hf]; omega
  | k + 1, u, h, hf => by
    unfold ltV
    by_cases e : f (k + 1) = b
    · rw [if_pos e]; omega
    · rw [if_neg e]
      have : u ≠ k + 1 := fun x => e (x ▸ hf)
      exact lt_ge f b (by omega) hf
theorem lt_so (f : Nat → Bool) (b : Bool) : ∀ {k : Nat}, 0 ≤ ltV f b k → ∃ u, u ≤ k ∧ ltV f b k = (u : Int) ∧ f u = b
  | 0, h => by
    unfold ltV at h ⊢
    by_cases e : f 0 = b
    · exact ⟨0, Nat.le_refl _, by rw [if_pos e]; rfl, e⟩
    · rw [if_neg e] at h; omega
  | k + 1, h => by
    unfold ltV at h ⊢
    by_cases e : f (k + 1) = b
    · exact ⟨k + 1, Nat.le_refl _, by rw [if_pos e], e⟩
    · rw [if_neg e] at h ⊢
      obtain ⟨u, h1, h2, h3⟩ := lt_so f b (k := k) h
      exact ⟨u, by omega, h2, h3⟩
/-- It was so within the last a ticks just if the last place is there. -/
theorem lt_within {f : Nat → Bool} {b : Bool} {k u : Nat} {a : Int} (hu : u ≤ k) (hs : (k : Int) - a ≤ u) (h : f u = b) : (k : Int) - ltV f b k ≤ a := by
  have := lt_ge f b hu h
  omega
theorem lt_without {f : Nat → Bool} {b : Bool} {k : Nat} {a : Int} (ha : a ≤ 1000) (h : ∀ u, u ≤ k → (k : Int) - a ≤ u → f u ≠ b) : a < (k : Int) - ltV f b k := by
  rcases lt_two f b k with e | e
  · omega
  · obtain ⟨u, h1, h2, h3⟩ := lt_so f b e
    by_cases x : (k : Int) - a ≤ u
    · exact absurd h3 (h u h1 x)
    · omega
end Go.Proofs.Ytmemhlhjkpijpaa
