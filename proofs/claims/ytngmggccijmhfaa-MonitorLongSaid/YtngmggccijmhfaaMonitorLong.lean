/- MonitorLong holds of every number of ticks looked back, and every number of ticks: once is so for just as many ticks, always from then on. No condition. -/
import Derived.Test.YtngmggccijmhfaaLaw58
namespace Go.Proofs.Ytngmggccijmhfaa.monitorLong
open Go.ChangeShapes Go.WideShapes Go.ChangeAt Go.RowKit
set_option linter.unusedVariables false
set_option linter.unusedSimpArgs false
set_option maxRecDepth 100000
attribute [local go_sem] cell_set_ite Near.cell Near.frozen

theorem outs_set {W : World} {g n : Nat} (hg : g < W.heap.size) (hc : ∀ i j, i < n → j < 11 → W.cell? ⟨g, i * 11 + j, none⟩ = (ouD false).cells[j]?) (h0 : 1 ≤ n) : Outs (W.setCell ⟨g, 9, none⟩ (.bool true)) (some ⟨g, 0, none⟩) n osL := fun _ => by
  refine ⟨g, 0, rfl, by rw [size_setCell]; exact hg, fun i hi j hj => ?_⟩
  rw [Nat.zero_add]
  by_cases h : i = 0 ∧ j = 9
  · obtain ⟨rfl, rfl⟩ := h
    have h9 : W.cell? ⟨g, 9, none⟩ = some (.bool false) := hc 0 9 hi hj
    rw [show 0 * 11 + 9 = 9 from rfl, World.cell?_setCell_same W _ _ h9]
    rfl
  · rw [World.cell?_setCell_other W _ _ _ (fun e => h (by have := congrArg Addr.off e; simp at this; omega)), hc i j hi hj]
    match i with
    | 0 =>
      match j, hj with
      | 0, _ => rfl
      | 1, _ => rfl
      | 2, _ => rfl
      | 3, _ => rfl
      | 4, _ => rfl
      | 5, _ => rfl
      | 6, _ => rfl
      | 7, _ => rfl
      | 8, _ => rfl
      | 9, _ => exact absurd ⟨rfl, rfl⟩ h
      | 10, _ => rfl
    | i + 1 =>
      show (ouD false).cells[j]? = (ouD (decide (i + 1 = 0))).cells[j]?
      rw [decide_eq_false (by omega)]

theorem terms_far {W : World} {g n : Nat} {ts : Nat → Tm} (h : Terms W (some ⟨g, 0, none⟩) n ts) {p : Addr} (hp : p.block ≠ g) (v : Value) : Terms (W.setCell p v) (some ⟨g, 0, none⟩) n ts := by
  refine ⟨h.1, fun h0 => ?_⟩
  obtain ⟨b, off, e, hl, hc⟩ := h.2 h0
  cases e
  refine ⟨g, 0, rfl, by rw [size_setCell]; exact hl, fun i hi => ⟨?_, ?_, ?_⟩⟩
  · exact (World.cell?_setCell_other W p _ v (fun e => hp (congrArg Addr.block e))).trans (hc i hi).1
  · exact (World.cell?_setCell_other W p _ v (fun e => hp (congrArg Addr.block e))).trans (hc i hi).2.1
  · exact (World.cell?_setCell_other W p _ v (fun e => hp (congrArg Addr.block e))).trans (hc i hi).2.2
theorem terms_lt {W : World} {g n : Nat} {ts : Nat → Tm} (h : Terms W (some ⟨g, 0, none⟩) n ts) (h0 : 0 < n) : g < W.heap.size := by
  obtain ⟨b, off, e, hl, _⟩ := h.2 h0
  cases e
  exact hl

set_option maxHeartbeats 8000000 in
theorem walk (p : Int) (wp : (Lit.int .u16 p).wf = true) (q : Int) (wq : (Lit.int .u16 q).wf = true) (w : World) :
    Calls Try.prog 8 #[.int .u16 p, .int .u16 q] w fun e w' => e = .returned (.bool true) ∧ Below w.heap.size w w' := by
  have bp : 0 ≤ p ∧ p ≤ 65535 := by simp only [Lit.wf, IntKind.min, IntKind.max, IntKind.signed, IntKind.bits, Bool.and_eq_true] at wp; simpa using wp
  have bq : 0 ≤ q ∧ q ≤ 65535 := by simp only [Lit.wf, IntKind.min, IntKind.max, IntKind.signed, IntKind.bits, Bool.and_eq_true] at wq; simpa using wq
  clear wp wq
  obtain ⟨a, ha⟩ : ∃ a : Int, p % 1001 = a := ⟨_, rfl⟩
  obtain ⟨T, hT⟩ : ∃ T : Nat, q % 1200 = (T : Int) := ⟨(q % 1200).toNat, by omega⟩
  have a0 : 0 ≤ a := by omega
  have a1 : a ≤ 1000 := by omega
  have hT1 : T ≤ 1199 := by omega
  have wT : IntKind.i64.wrap ((T : Int) + 1) = ((T + 1 : Nat) : Int) := by rw [IntKind.wrap_i64]; omega
  have hrO := rtO a0 a1
  have hrA := rtA a0 a1
  have A0 : Below w.heap.size w w := Below.refl _ _
  go_enter Try.func8, Try.ntmps8
  go_upto_region 5 with (fail)
  have HO := terms_two (w.alloc (.cells #[.int .i64 2, .int .i64 9, .int .i64 1] 36)) ⟨2, 9, 1⟩ ⟨6, a, 0⟩ (by decide) (by show (0 : Int) ≤ _; omega)
  have HA := terms_three ((w.alloc (.cells #[.int .i64 2, .int .i64 9, .int .i64 1] 36)).alloc (.cells #[.int .i64 2, .int .i64 9, .int .i64 1, .int .i64 6, .int .i64 a, .int .i64 0] 36)) ⟨2, 9, 1⟩ ⟨3, 0, 0⟩ ⟨7, a, 0⟩ (by decide) (by decide) (by show (0 : Int) ≤ _; omega)
  rw [show (w.alloc (.cells #[.int .i64 2, .int .i64 9, .int .i64 1] 36)).heap.size = w.heap.size + 1 by simp] at HO
  rw [show ((w.alloc (.cells #[.int .i64 2, .int .i64 9, .int .i64 1] 36)).alloc (.cells #[.int .i64 2, .int .i64 9, .int .i64 1, .int .i64 6, .int .i64 a, .int .i64 0] 36)).heap.size = w.heap.size + 1 + 1 by simp] at HA
  refine at_world (fun W => Below w.heap.size w W ∧ Terms W (some ⟨w.heap.size + 1, 0, none⟩) 2 (tsO a) ∧ Terms W (some ⟨w.heap.size + 1 + 1, 0, none⟩) 3 (tsA a)) ⟨by (repeat (first | (with_reducible exact Below.refl _ _) | (with_reducible assumption) | (with_reducible refine Near.up _ ?_) | (with_reducible refine Below.drew ?_) | (with_reducible refine below_alloc_on ?_ _) | (with_reducible refine below_set_on ?_ (by first | (simp; done) | (simp; omega) | omega) _))), HO.below (below_alloc_on (Below.refl _ _) _), HA⟩ ?_
  clear HO HA A0
  obtain ⟨go, hgo⟩ : ∃ go, w.heap.size + 1 = go := ⟨_, rfl⟩
  obtain ⟨ga, hga⟩ : ∃ ga, w.heap.size + 1 + 1 = ga := ⟨_, rfl⟩
  simp only [hga]
  simp only [hgo]
  clear hgo hga
  rintro w1 ⟨A1, T1, U1⟩
  obtain ⟨i0, hi0, hz0, hz1, hz2⟩ := info_parts out_info
  have hmk := run_make (P := Try.prog) w1 23 29 i0 _ Try.underlying23 hi0 hz0 .i64 .i64 ((T + 1 : Nat) : Int) ((T + 1 : Nat) : Int) (by omega) (by omega) (by rw [hz2]; omega) (by omega)
  simp only [hz1, Int.toNat_natCast, show (Value.agg (ouD false).cells).cells = (ouD false).cells from rfl] at hmk
  have HMD := Lib.hid (made_out w1 (T + 1) 29)
  obtain ⟨n1, hn1⟩ : ∃ n1, T + 1 = n1 := ⟨_, rfl⟩
  rw [hn1] at hmk wT HMD
  have n10 : 1 ≤ n1 := by omega
  have n11 : n1 ≤ 1200 := by omega
  clear hn1 hi0 hz0 hz1 hz2
  go_upto_region 6 with (fail)
  refine at_world (fun W => Below w.heap.size w W ∧ Terms W (some ⟨go, 0, none⟩) 2 (tsO a) ∧ Terms W (some ⟨ga, 0, none⟩) 3 (tsA a) ∧ w1.heap.size < W.heap.size ∧ Hid (∀ i j, i < n1 → j < 11 → W.cell? ⟨w1.heap.size, i * 11 + j, none⟩ = (ouD false).cells[j]?) ∧ ∀ i, W.frozen? ⟨w1.heap.size, i, none⟩ = false)
    ⟨below_alloc_on A1 _, T1.below (below_alloc_on (Below.refl _ _) _), U1.below (below_alloc_on (Below.refl _ _) _), by simp, Lib.hid (fun i j hi hj => HMD.out i j hi hj), fun i => by rw [frozen?_alloc_cells]; unfold World.frozen?; rw [Array.getElem?_eq_none (Nat.le_refl _)]⟩ ?_
  have sz1 := A1.size
  have lgo := terms_lt T1 (by omega)
  have lga := terms_lt U1 (by omega)
  obtain ⟨g, hg⟩ : ∃ g, w1.heap.size = g := ⟨_, rfl⟩
  simp only [hg]
  have wg : w.heap.size ≤ g := by omega
  have ngo : g ≠ go := by omega
  have nga : g ≠ ga := by omega
  clear A1 T1 U1 HMD hmk sz1 hg lgo lga
  rintro w2 ⟨A2, T2, U2, lg, HC, fg⟩
  have c9 : w2.cell? ⟨g, 9, none⟩ = some (.bool false) := HC.out 0 9 (by omega) (by omega)
  have t0 : (0 : Int) < (n1 : Int) := by omega
  have A3 := below_set_on A2 (p := ⟨g, 9, none⟩) wg (.bool true)
  have O3 := outs_set lg HC.out n10
  have T3 := Lib.hid (terms_far T2 (p := ⟨g, 9, none⟩) ngo (.bool true))
  have U3 := Lib.hid (terms_far U2 (p := ⟨g, 9, none⟩) nga (.bool true))
  have O3' := Lib.hid O3
  clear HC T2 U2 O3 A2
  go_upto_region 7 with (fail)
  clear c9 fg lg
  generalize w2.setCell ⟨g, 9, none⟩ (.bool true) = w3 at *
  go_wp2_with (fail)
  refine (mo_run _ 2 2 (tsO a) _ n1 n1 osL w3 T3.out O3'.out hrO (by omega)).mono ?_
  rintro e w4 ⟨g1, rfl, C1, _, hb⟩
  have A4 := below_call A3 hb
  have U4 := Lib.hid (U3.out.below hb)
  have O4 := Lib.hid (O3'.out.below hb)
  have K1 := Lib.hid (C1.congr (G := fun i => .bool (decide ((i : Int) ≤ a))) (fun i _ => by rw [runO a0 a1]))
  clear hb A3 T3 U3 O3' C1
  go_wp2_with (fail)
  refine (mo_run _ 3 3 (tsA a) _ n1 n1 osL w4 U4.out O4.out hrA (by omega)).mono ?_
  rintro e w5 ⟨g2, rfl, C2, _, hb⟩
  have A5 := below_call A4 hb
  have K1' := Lib.hid (K1.out.below hb)
  have K2 := Lib.hid (C2.congr (G := fun i => .bool (decide (a < (i : Int)))) (fun i _ => by rw [runA a0 a1]))
  clear hb A4 U4 O4 C2 K1
  go_wp2
  go_loopg [56] n1 (fun gk i wr => ∃ k : Nat, k ≤ n1 ∧ gk = n1 - k ∧ i = .int .i64 k ∧ Below w.heap.size w wr ∧ Col wr g1 n1 (fun i => .bool (decide ((i : Int) ≤ a))) ∧ Col wr g2 n1 (fun i => .bool (decide (a < (i : Int)))))
  case atStart => exact ⟨0, by omega, rfl, rfl, A5, K1'.out, K2.out⟩
  case round =>
    clear A5 K1' K2
    obtain ⟨k, hk, rfl, rfl, A5, C1, C2⟩ := hrel
    by_cases hlt : k < n1
    · have c0 := C1.cell k hlt
      have c1 := C2.cell k hlt
      have H1 := Lib.hid C1
      have H2 := Lib.hid C2
      have k1 : (k : Int) < (n1 : Int) := by omega
      clear C1 C2
      by_cases hd : (k : Int) ≤ a
      · have d1 := decide_eq_true hd
        have d2 : decide (a < (k : Int)) = false := decide_eq_false (by omega)
        rw [d1] at c0
        rw [d2] at c1
        clear hd
        go_wp2
        go_roundg (n1 - (k + 1))
        case measure => omega
        case rel => exact ⟨k + 1, by omega, by omega, by go_num, A5, H1.out, H2.out⟩
      · have d1 := decide_eq_false hd
        have d2 : decide (a < (k : Int)) = true := decide_eq_true (by omega)
        rw [d1] at c0
        rw [d2] at c1
        clear hd
        go_wp2
        go_roundg (n1 - (k + 1))
        case measure => omega
        case rel => exact ⟨k + 1, by omega, by omega, by go_num, A5, H1.out, H2.out⟩
    · obtain rfl : k = n1 := by omega
      clear C1 C2
      go_wp2_with (go_at_call 17; refine (law58_awake _).mono ?_; rintro e w' ⟨rfl, hb'⟩)
      go_ret
      exact ⟨rfl, below_call A5 hb'⟩

set_option maxRecDepth 100000 in
theorem lifted (os : Os) (started : os.Started) (H : Type) (enc : TypeId × Value → H) :
    ReturnsInHanded {} Try.checked os 8 .any (Rows.monitorLongSpec.pre6 enc Try.prog Try.f8 Rows.monitorLongRow.domain false) (Rows.monitorLongSpec.post enc Try.prog Try.f8 false true false false) := by
  refine law_lift started (by kernel_rfl) Try.func8 rfl rfl ?_ (by kernel_rfl)
    (ChangeSpec.witness6 (enc := enc) (C := Try.checked) false ⟨#[], #[.int .u16 0, .int .u16 0], []⟩ 8 (by kernel_rfl) (by kernel_rfl) (by kernel_rfl) (by kernel_rfl)) ?_
  · intro ds hl
    match ds, hl with
    | [_, _], _ => exact ⟨rfl, rfl, rfl⟩
  · intro W base args ds p hval hA hlt hwt
    rw [Try.params8] at hA hval hwt
    obtain ⟨v0, vs0, d0, ds0, p0, q0, hargs, rfl, rfl, h0, r0⟩ := trodAll_cons hA
    obtain ⟨v1, vs1, d1, ds1, p1, q1, rfl, rfl, rfl, h1, r1⟩ := trodAll_cons r0
    obtain ⟨rfl, rfl, rfl⟩ := trodAll_nil r1
    obtain rfl : args = #[v0, v1] := by cases args; simp_all
    obtain ⟨a0, rfl, rfl, rfl, w0⟩ := open_int Try.underlying48 (hval 0 48 v0 rfl rfl) h0
    obtain ⟨a1, rfl, rfl, rfl, w1⟩ := open_int Try.underlying48 (hval 1 48 v1 rfl rfl) h1
    exact walk a0 w0 a1 w1 W

theorem over : Rows.monitorLongRow.holds Try.pinned (OpenSpec.ofChange Rows.monitorLongSpec) :=
  OpenClaim.holds_of_wide 8 Try.f8 rfl rfl rfl rfl rfl rfl rfl ⟨rfl, rfl, rfl, rfl, rfl⟩ rfl rfl rfl rfl rfl (by kernel_rfl) Try.func8 (by kernel_rfl)
    (of_decide_eq_true (by kernel_rfl)) (by unfold Func.isWrapper; first | (rw [if_pos (by decide +kernel)]; kernel_rfl) | (rw [if_neg (by decide +kernel)]; exact ⟨rfl, rfl⟩))
    (fun os started H enc _ => lifted os started H enc)

theorem proved : Rows.MonitorLongSaid := over
#print axioms proved
end Go.Proofs.Ytngmggccijmhfaa.monitorLong
