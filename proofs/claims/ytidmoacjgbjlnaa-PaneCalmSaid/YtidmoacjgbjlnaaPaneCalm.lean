/- PaneCalm holds of every rate, every set and every list of waits: drops at a programme's own pace are never too many. No condition. -/
import Derived.Test.YtidmoacjgbjlnaaPane
import Derived.Test.YtidmoacjgbjlnaaDrop
import Derived.Test.YtidmoacjgbjlnaaNums
import Derived.Deep.LoopGhost
import Derived.Deep.CutBlock
import Derived.Deep.DeepCutAuto
namespace Go.Proofs.Ytidmoacjgbjlnaa.paneCalm
open Go.ChangeShapes Go.WideShapes Go.ChangeAt Go.RowKit
set_option linter.unusedVariables false
set_option linter.unusedSimpArgs false
set_option maxRecDepth 100000

theorem every_in (D : Int) (h0 : 10 ≤ D) (h1 : D ≤ 60000) : 6 ≤ 360000 / D ∧ 360000 / D ≤ 36000 ∧ 360000 < (360000 / D + 1) * D := by
  have a := Int.mul_ediv_add_emod 360000 D
  have b := Int.emod_nonneg 360000 (b := D) (by omega)
  have c := Int.emod_lt_of_pos 360000 (b := D) (by omega)
  rw [Int.mul_comm] at a
  have e : (360000 / D + 1) * D = 360000 / D * D + D := by rw [Int.add_mul, Int.one_mul]
  refine ⟨(Int.le_ediv_iff_mul_le (by omega)).2 (by omega), ?_, by omega⟩
  have h : (360000 / D) * 10 ≤ 360000 / D * D := Int.mul_le_mul_of_nonneg_left h0 (Int.ediv_nonneg (by omega) (by omega))
  omega
theorem calm_in (D g : Int) (h0 : 10 ≤ D) (he : 360000 < g * D) (g0 : 1 ≤ g) : 5999 / g + 1 ≤ D / 60 + 8 := by
  have a := Int.mul_ediv_add_emod 5999 g
  have b := Int.emod_nonneg 5999 (b := g) (by omega)
  have q0 : 0 ≤ 5999 / g := Int.ediv_nonneg (by omega) (by omega)
  generalize 5999 / g = q at *
  have d : q * 360000 ≤ q * (g * D) := Int.mul_le_mul_of_nonneg_left (by omega) q0
  have f : g * q * D ≤ 5999 * D := Int.mul_le_mul_of_nonneg_right (by omega) (by omega)
  have i : q * (g * D) = g * q * D := by rw [← Int.mul_assoc, Int.mul_comm q g]
  omega
theorem gap_len (g : Int) (hg : 0 < g) : ∀ (l : List Int) (lo hi : Int), l.Pairwise (fun a b => a + g ≤ b) → (∀ x ∈ l, lo ≤ x ∧ x ≤ hi) → l ≠ [] → ((l.length : Int) - 1) * g ≤ hi - lo
  | [], _, _, _, _, h => absurd rfl h
  | [x], lo, hi, _, h, _ => by
    have := h x (by simp)
    simp; omega
  | x :: y :: r, lo, hi, hp, h, _ => by
    obtain ⟨hx, hr⟩ := List.pairwise_cons.1 hp
    have h0 := h x (by simp)
    have ih := gap_len g hg (y :: r) (lo + g) hi hr (fun z hz => ⟨by have := hx z hz; omega, (h z (List.mem_cons_of_mem _ hz)).2⟩) (by simp)
    have e : (((x :: y :: r).length : Int) - 1) * g = (((y :: r).length : Int) - 1) * g + g := by
      have : (((x :: y :: r).length : Nat) : Int) - 1 = (((y :: r).length : Nat) : Int) - 1 + 1 := by simp
      rw [this, Int.add_mul, Int.one_mul]
    omega
theorem in_big {x now : Int} (h0 : 0 ≤ x) (h1 : x ≤ 100000000) (h2 : 0 ≤ now) (h3 : now ≤ 100000000) : inV x now 6000 = decide (now - 6000 < x ∧ x ≤ now) := by
  rw [inV_small x (by omega) (by omega) (by omega) (by omega), clV_small (by omega) (by omega)]
/-- The times that are kept: so far apart. -/
def Apart (g : Int) (K : List Int) (T : Int) : Prop := K.Pairwise (fun a b => a + g ≤ b) ∧ ∀ x ∈ K, 0 ≤ x ∧ x ≤ T
theorem Apart.next {g T t : Int} {K : List Int} (h : Apart g K T) (ht : T + g ≤ t) (h0 : 0 ≤ t) (hg : 0 < g) (m : Int) (m0 : 0 ≤ m) (m1 : m ≤ 511) :
    Apart g (pushL (nearL K t 6000) (m + 1) t) t ∧ (pushL (nearL K t 6000) (m + 1) t).length ≤ 512 := by
  obtain ⟨hp, hb⟩ := h
  have hs : (nearL K t 6000).Sublist K := List.filter_sublist
  have hd : (lastL (nearL K t 6000) ((roomN (m + 1) : Int) - 1)).Sublist K := by
    unfold lastL
    exact (List.drop_sublist _ _).trans hs
  refine ⟨?_, pushL_len _ _ _⟩
  have hr : roomN (m + 1) ≠ 0 := by unfold roomN cntV; split <;> (try split) <;> omega
  unfold pushL
  rw [if_neg hr]
  refine ⟨?_, fun x hx => ?_⟩
  · rw [List.pairwise_append]
    refine ⟨hp.sublist hd, List.pairwise_singleton _ _, fun a ha b hb' => ?_⟩
    have := hb a (hd.subset ha)
    rw [List.mem_singleton] at hb'
    omega
  · rcases List.mem_append.1 hx with hx | hx
    · have := hb x (hd.subset hx); omega
    · rw [List.mem_singleton] at hx; omega
theorem Apart.over {g t : Int} {K : List Int} (h : Apart g K t) (h0 : 0 ≤ t) (h1 : t ≤ 100000000) (hg : 0 < g) (m : Int) (hm : 5999 / g + 1 ≤ m) : overB K t 6000 m = false := by
  obtain ⟨hp, hb⟩ := h
  have hs : (nearL K t 6000).Sublist K := List.filter_sublist
  have hi : ∀ x ∈ nearL K t 6000, t - 5999 ≤ x ∧ x ≤ t := fun x hx => by
    have h2 := (List.mem_filter.1 hx).2
    have h3 := hb x (hs.subset hx)
    rw [in_big (by omega) (by omega) h0 h1] at h2
    simp at h2; omega
  have q0 : 0 ≤ 5999 / g := Int.ediv_nonneg (by omega) (by omega)
  unfold overB cntI
  rw [decide_eq_false_iff_not]
  by_cases hn : nearL K t 6000 = []
  · rw [hn]; simp; omega
  · have := gap_len g hg _ (t - 5999) t (hp.sublist hs) hi hn
    have : ((nearL K t 6000).length : Int) - 1 ≤ 5999 / g := (Int.le_ediv_iff_mul_le hg).2 (by omega)
    omega
theorem Apart.nil (g : Int) : Apart g [] 0 := ⟨List.Pairwise.nil, by simp⟩

set_option maxHeartbeats 16000000 in
theorem walk (w : World) (r : Int) (wr : (Lit.int .u16 r).wf = true) (a : Int) (wa : (Lit.int .u8 a).wf = true) (A : Option Addr) (n c : Nat) (ss : List Int) (hi : Nums .u8 w A n ss) (hc : n ≤ c) (hr : n * 1 ≤ 140737488351232) (wx : ∀ x ∈ ss, (Lit.int .u8 x).wf = true) :
    Calls Try.prog 4 #[.int .u16 r, .int .u8 a, .slice A n c] w fun e w' => e = .returned (.bool true) ∧ Below w.heap.size w w' := by
  have a0 : 0 ≤ r ∧ r ≤ 65535 := by simp only [Lit.wf, IntKind.min, IntKind.max, IntKind.signed, IntKind.bits, Bool.and_eq_true] at wr; simpa using wr
  have b0 : 0 ≤ a ∧ a ≤ 255 := by simp only [Lit.wf, IntKind.min, IntKind.max, IntKind.signed, IntKind.bits, Bool.and_eq_true] at wa; simpa using wa
  obtain ⟨k, rfl⟩ := Int.eq_ofNat_of_zero_le b0.1
  obtain ⟨r0, r1⟩ := a0
  have HS := fun w => law9_set k (by omega) w
  have HI := Lib.hid hi
  have HX := Lib.hid (show ∀ j : Nat, j < n → 0 ≤ ss.getD j 0 ∧ ss.getD j 0 ≤ 255 from fun j hj => by
    have hj' : j < ss.length := by have := hi.1; omega
    have h := wx (ss.getD j 0) (by simp [List.getD, List.getElem?_eq_getElem hj'])
    simp only [Lit.wf, IntKind.min, IntKind.max, IntKind.signed, IntKind.bits, Bool.and_eq_true] at h
    simpa using h)
  have hf := set_kn k
  have hA : Below w.heap.size w w := Below.refl _ _
  clear hi wx wr wa b0
  generalize setV k = f at *
  obtain ⟨q, hq, q0, q1, qf⟩ : ∃ q : Int, (30000 / f = q) ∧ 500 ≤ q ∧ q ≤ 3000 ∧ q * f = 30000 := by rcases hf with rfl | rfl | rfl | rfl <;> exact ⟨_, rfl, by decide, by decide, by decide⟩
  obtain ⟨s, hs⟩ : ∃ s : Int, r % q = s := ⟨_, rfl⟩
  have s0 : 0 ≤ s := hs ▸ Int.emod_nonneg _ (by omega)
  have s1 : s < q := hs ▸ Int.emod_lt_of_pos _ (by omega)
  obtain ⟨u, hu⟩ : ∃ u : Int, 1 + s = u := ⟨_, rfl⟩
  obtain ⟨m, hway, m0, m1, m2⟩ : ∃ m : Int, ((u < 1000 ∧ m = u) ∨ (¬ u < 1000 ∧ m = 1000)) ∧ 1 ≤ m ∧ m ≤ 1000 ∧ m ≤ q := by
    by_cases h : u < 1000
    · exact ⟨u, .inl ⟨h, rfl⟩, by omega⟩
    · exact ⟨1000, .inr ⟨h, rfl⟩, by omega⟩
  have ⟨D0, D1⟩ := hour_in hf m0 m1
  have D2 : m * f ≤ 30000 := by
    have := Int.mul_le_mul_of_nonneg_right m2 (show 0 ≤ f by rcases hf with rfl | rfl | rfl | rfl <;> decide)
    omega
  obtain ⟨e0, e1, e2⟩ := every_in (m * f) D0 D1
  have hcalm := calm_in (m * f) (360000 / (m * f) + 1) D0 e2 (by omega)
  have HE := Lib.hid (fun (w' : World) (h : At w w') => ds_every w m f hf m0 m1 w' h)
  have HL := Lib.hid (fun (w' : World) (h : At w w') => ds_limit w m f hf m0 m1 w' h)
  have l0 : 0 ≤ m * f / 60 + 8 ∧ m * f / 60 + 8 ≤ 508 := by omega
  obtain ⟨l0, l1⟩ := l0
  have HQ := Lib.hid hq
  have ff : 10 ≤ f ∧ f ≤ 60 := by rcases hf with rfl | rfl | rfl | rfl <;> decide
  obtain ⟨f0, f1⟩ := ff
  have HS := Lib.hid HS
  have HF := Lib.hid hf
  clear qf e2 D0 D1 D2 hf
  generalize 360000 / (m * f) = E at *
  generalize m * f / 60 + 8 = LM at *
  have HC := Lib.hid hcalm
  clear hcalm m0 m1 m2
  have hb := At.refl w
  go_enter Try.func4, Try.ntmps4
  go_upto_region 2 with (go_at_call 16; refine (HS.out _).mono ?_; rintro e w' ⟨rfl, rfl⟩)
  go_cut [8] (fun v wx => v = .int .i64 u ∧ w = wx)
  case first =>
    have hq := HQ.out
    rcases HF.out with rfl | rfl | rfl | rfl
    · obtain rfl : q = 3000 := by omega
      clear hq
      go_wp2
      go_meet
      exact ⟨rfl, rfl⟩
    · obtain rfl : q = 2000 := by omega
      clear hq
      go_wp2
      go_meet
      exact ⟨rfl, rfl⟩
    · obtain rfl : q = 1500 := by omega
      clear hq
      go_wp2
      go_meet
      exact ⟨rfl, rfl⟩
    · obtain rfl : q = 500 := by omega
      clear hq
      go_wp2
      go_meet
      exact ⟨rfl, rfl⟩
  case rest =>
  obtain ⟨rfl, rfl⟩ := hcut
  clear hs hu
  go_upto_region 3 with (fail)
  go_cut [8] (fun v wx => v = .int .i64 m ∧ w = wx)
  case first =>
    rcases hway with ⟨h1, rfl⟩ | ⟨h1, rfl⟩
    · go_wp2
      go_meet
      exact ⟨by rw [show min m 1000 = m by omega], rfl⟩
    · go_wp2
      go_meet
      exact ⟨by rw [show min u 1000 = 1000 by omega], rfl⟩
  case rest =>
  obtain ⟨rfl, rfl⟩ := hcut
  clear hway
  by_cases hn : 50 < n
  · have t0 : decide (50 < (n : Int)) = true := decide_eq_true (by omega)
    go_wp2_with (first
      | (go_at_call 17; refine (HE.out _ (by assumption)).mono ?_; rintro e w' ⟨rfl, hb⟩)
      | (go_at_call 18; refine (HL.out _ (by assumption)).mono ?_; rintro e w' ⟨rfl, hb⟩)
      | (go_at_call 12; refine (law26_awake _).mono ?_; rintro e w'' ⟨rfl, hb''⟩))
    go_ret
    exact ⟨rfl, below_call hb hb''⟩
  · have t0 : decide (50 < (n : Int)) = false := decide_eq_false (by omega)
    go_wp2_with (first
      | (go_at_call 17; refine (HE.out _ (by assumption)).mono ?_; rintro e w' ⟨rfl, hb⟩)
      | (go_at_call 18; refine (HL.out _ (by assumption)).mono ?_; rintro e w' ⟨rfl, hb⟩))
    go_loopg [13, 14, 56] 700 (fun gk v t i wx => ∃ (k : Nat) (T : Int) (K : List Int), k ≤ 700 ∧ gk = 700 - k ∧ i = .int .i64 k ∧ t = .int .i64 T ∧ 0 ≤ T ∧ T ≤ 37000 * k ∧ K.length ≤ 512 ∧ Apart (E + 1) K T ∧ (∃ B d, v = .slice B K.length d ∧ K.length ≤ d ∧ Ints wx B K.length K) ∧ Below w.heap.size w wx)
    case atStart => exact ⟨0, 0, [], by omega, rfl, rfl, rfl, by omega, by omega, by simp, Apart.nil _, ⟨none, 0, rfl, Nat.le_refl _, ⟨rfl, fun h => absurd h (by simp)⟩⟩, by assumption⟩
    case round =>
      clear hb
      obtain ⟨j, T, K, hk, rfl, rfl, rfl, t00, t01, kl, hap, ⟨B, d, rfl, hd, hints⟩, A⟩ := hrel
      by_cases hlt : j < 700
      · obtain ⟨T1, hT1⟩ : ∃ T1 : Int, T + (E + 1) = T1 := ⟨_, rfl⟩
        by_cases hz : 0 < n
        · obtain ⟨q2, hq2⟩ : ∃ q2 : Nat, j % n = q2 := ⟨_, rfl⟩
          have hqn : q2 < n := hq2 ▸ Nat.mod_lt _ hz
          have e1 : (j : Int) % (n : Int) = (q2 : Int) := by rw [← hq2]; rfl
          have e2 : Int.tmod (j : Int) (n : Int) = (q2 : Int) := by rw [Int.tmod_eq_emod_of_nonneg (by omega)]; exact e1
          have nz : ((n : Int) == 0) = false := by simp; omega
          have dn : decide (0 < (n : Int)) = true := decide_eq_true (by omega)
          obtain ⟨b, off, rfl, hbs, hcell⟩ := HI.out.at_ hqn
          have hck := (A.cell (p := ⟨b, off + q2, none⟩) hbs).trans hcell
          obtain ⟨v0, v1⟩ := HX.out q2 hqn
          clear hcell hq2
          generalize ss.getD q2 0 = v at *
          obtain ⟨T2, hT2⟩ : ∃ T2 : Int, T1 + v = T2 := ⟨_, rfl⟩
          have HP := pn_push B K.length d K T2 LM wr hints (by omega)
          rw [pc_in (by omega) (by omega)] at HP
          obtain ⟨hap', hlen⟩ := hap.next (t := T2) (by omega) (by omega) (by omega) LM (by omega) (by omega)
          have hov := hap'.over (by omega) (by omega) (by omega) LM HC.out
          have HAP := Lib.hid hap'
          have HOV := Lib.hid hov
          generalize pushL (nearL K T2 6000) (LM + 1) T2 = P at *
          have HPX := Lib.hid HP
          clear HP hap hap' hov hints
          go_wp2_with (fail)
          refine HPX.out.mono ?_
          rintro e w3 hN
          obtain ⟨B3, d3, rfl, hd3, hi3, hb3⟩ := hN.ints rfl
          have A3 := below_call A hb3
          have HO := pn_over B3 P.length d3 P T2 LM w3 hi3 (by omega)
          rw [pc_in (by omega) (by omega), HOV.out] at HO
          have HOX := Lib.hid HO
          have HI3 := Lib.hid hi3
          clear HO hi3 hN hb3 HPX
          go_wp2_with (go_at_call 14; refine HOX.out.mono ?_; rintro e w' ⟨rfl, rfl⟩)
          go_roundg (700 - (j + 1))
          case measure => omega
          case rel => exact ⟨j + 1, T2, P, by omega, by omega, by go_num, rfl, by omega, by omega, hlen, HAP.out, ⟨B3, d3, rfl, hd3, HI3.out⟩, A3⟩
        · have dn : decide (0 < (n : Int)) = false := decide_eq_false (by omega)
          have HP := pn_push B K.length d K T1 LM wr hints (by omega)
          rw [pc_in (by omega) (by omega)] at HP
          obtain ⟨hap', hlen⟩ := hap.next (t := T1) (by omega) (by omega) (by omega) LM (by omega) (by omega)
          have hov := hap'.over (by omega) (by omega) (by omega) LM HC.out
          have HAP := Lib.hid hap'
          have HOV := Lib.hid hov
          generalize pushL (nearL K T1 6000) (LM + 1) T1 = P at *
          have HPX := Lib.hid HP
          clear HP hap hap' hov hints
          go_wp2_with (fail)
          refine HPX.out.mono ?_
          rintro e w3 hN
          obtain ⟨B3, d3, rfl, hd3, hi3, hb3⟩ := hN.ints rfl
          have A3 := below_call A hb3
          have HO := pn_over B3 P.length d3 P T1 LM w3 hi3 (by omega)
          rw [pc_in (by omega) (by omega), HOV.out] at HO
          have HOX := Lib.hid HO
          have HI3 := Lib.hid hi3
          clear HO hi3 hN hb3 HPX
          go_wp2_with (go_at_call 14; refine HOX.out.mono ?_; rintro e w' ⟨rfl, rfl⟩)
          go_roundg (700 - (j + 1))
          case measure => omega
          case rel => exact ⟨j + 1, T1, P, by omega, by omega, by go_num, rfl, by omega, by omega, hlen, HAP.out, ⟨B3, d3, rfl, hd3, HI3.out⟩, A3⟩
      · obtain rfl : j = 700 := by omega
        clear hap hints
        go_wp2_with (go_at_call 12; refine (law26_awake _).mono ?_; rintro e w'' ⟨rfl, hb''⟩)
        go_ret
        exact ⟨rfl, below_call A hb''⟩

set_option maxRecDepth 100000 in
theorem lifted (os : Os) (started : os.Started) (H : Type) (enc : TypeId × Value → H) :
    ReturnsInHanded {} Try.checked os 4 .any (Rows.paneCalmSpec.pre6 enc Try.prog Try.f4 Rows.paneCalmRow.domain false) (Rows.paneCalmSpec.post enc Try.prog Try.f4 false true false false) := by
  refine law_lift started (by kernel_rfl) Try.func4 rfl rfl ?_ (by kernel_rfl)
    (ChangeSpec.witness6 (enc := enc) (C := Try.checked) false ⟨#[], #[.int .u16 0, .int .u8 0, .slice none 0 0], []⟩ 8 (by kernel_rfl) (by kernel_rfl) (by kernel_rfl) (by kernel_rfl)) ?_
  · intro ds hl
    match ds, hl with
    | [_, _, _], _ => exact ⟨rfl, rfl, rfl⟩
  · intro W base args ds p hval hA hlt hwt
    rw [Try.params4] at hA hval hwt
    obtain ⟨v0, vs0, d0, ds0, p0, q0, hargs, rfl, rfl, h0, r0⟩ := trodAll_cons hA
    obtain ⟨v1, vs1, d1, ds1, p1, q1, rfl, rfl, rfl, h1, r1⟩ := trodAll_cons r0
    obtain ⟨v2, vs2, d2, ds2, p2, q2, rfl, rfl, rfl, h2, r2⟩ := trodAll_cons r1
    obtain ⟨rfl, rfl, rfl⟩ := trodAll_nil r2
    obtain rfl : args = #[v0, v1, v2] := by cases args; simp_all
    obtain ⟨a0, rfl, rfl, rfl, w0⟩ := open_int Try.underlying25 (hval 0 25 v0 rfl rfl) h0
    obtain ⟨a1, rfl, rfl, rfl, w1⟩ := open_int Try.underlying5 (hval 1 5 v1 rfl rfl) h1
    have wt2 : ∀ n ∈ d2.weights Try.prog 30, n ≤ reachBytes := fun n hn => by
      have := List.all_eq_true.1 hwt n (DataW.weights_mem_each (j := 2) (t := 30) (d := d2) rfl rfl n hn)
      simpa using this
    have lt2 : ∀ x ∈ p2, x.block < W.heap.size := fun x hx => hlt x (by simp [hx])
    obtain ⟨A2, n2, c2, xs2, rfl, hi2, hc2, hr2, w2⟩ := open_nums_arg (nb := 1) Try.underlying30 Try.underlying5 (by kernel_rfl) (by kernel_rfl) (hval 2 30 v2 rfl rfl) h2 lt2 wt2
    exact walk W a0 w0 a1 w1 A2 n2 c2 xs2 hi2 hc2 hr2 w2

theorem over : Rows.paneCalmRow.holds Try.pinned (OpenSpec.ofChange Rows.paneCalmSpec) :=
  OpenClaim.holds_of_wide 4 Try.f4 rfl rfl rfl rfl rfl rfl rfl ⟨rfl, rfl, rfl, rfl, rfl⟩ rfl rfl rfl rfl rfl (by kernel_rfl) Try.func4 (by kernel_rfl)
    (of_decide_eq_true (by kernel_rfl)) (by unfold Func.isWrapper; first | (rw [if_pos (by decide +kernel)]; kernel_rfl) | (rw [if_neg (by decide +kernel)]; exact ⟨rfl, rfl⟩))
    (fun os started H enc _ => lifted os started H enc)

theorem proved : Rows.PaneCalmSaid := over
#print axioms proved
end Go.Proofs.Ytidmoacjgbjlnaa.paneCalm
