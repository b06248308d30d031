/- LatchHolds holds of every list of deeds: of each hazard, it is there just if it was raised, and behind that never acknowledged without being held. No condition. -/
import Derived.Test.YthfipnccjnekfaaDeeds
namespace Go.Proofs.Ythfipnccjnekfaa.latchHolds
open Go.ChangeShapes Go.WideShapes Go.ChangeAt Go.RowKit
set_option linter.unusedVariables false
set_option linter.unusedSimpArgs false

attribute [local go_sem] cell_set_ite

theorem step_f {f F : Nat → Bool} {N M : Int} {k : Nat} (hf : ∀ t, t < 12 → f t = if t < k then bitI M t else bitI N t) (hv : F k = bitI M k) (ho : ∀ t, t ≠ k → F t = f t) :
    ∀ t, t < 12 → F t = if t < k + 1 then bitI M t else bitI N t := fun t ht => by
  by_cases e : t = k
  · subst e; rw [hv, if_pos (by omega)]
  · rw [ho t e, hf t ht]
    by_cases g : t < k
    · rw [if_pos g, if_pos (by omega)]
    · rw [if_neg g, if_neg (by omega)]
theorem cnt_yes {g : Nat → Bool} {k : Nat} (h : g k = true) : cntK g (k + 1) = cntK g k + 1 := by rw [cntK, if_pos h]
theorem cnt_no {g : Nat → Bool} {k : Nat} (h : g k = false) : cntK g (k + 1) = cntK g k := by rw [cntK, if_neg (by rw [h]; simp)]
theorem cnt_le (g : Nat → Bool) (k : Nat) : cntK g k ≤ k := by
  induction k with
  | zero => exact Nat.le_refl _
  | succ k ih => unfold cntK; split <;> omega

set_option maxRecDepth 100000 in
set_option maxHeartbeats 4000000 in
theorem some_ (W : World) (A : Option Addr) (n c : Nat) (R H : Nat → Int) (K : Nat → Bool) (hi : Deeds W A n R H K) (hb : ∀ i, i < n → 0 ≤ R i ∧ R i ≤ 65535 ∧ 0 ≤ H i ∧ H i ≤ 65535) (hc : n ≤ c) (hn : n ≤ 100) :
    Calls Try.prog 4 #[.slice A n c] W fun e W' => e = .returned (.bool true) ∧ Below W.heap.size W W' := by
  have HI := Lib.hid hi
  have HB := Lib.hid hb
  have HA := Lib.hid law34_awake
  have A0 : Below W.heap.size W W := Below.refl _ _
  have t0 : decide (100 < (n : Int)) = false := decide_eq_false (by omega)
  clear hi hb
  go_enter Try.func4, Try.ntmps4
  go_wp2
  have A1 := below_alloc_on A0 (.cells #[.bool false, .bool false, .bool false, .bool false, .bool false, .bool false, .bool false, .bool false, .bool false, .bool false, .bool false, .bool false] 30)
  have B1 := arr_new W 30
  generalize W.alloc (.cells #[.bool false, .bool false, .bool false, .bool false, .bool false, .bool false, .bool false, .bool false, .bool false, .bool false, .bool false, .bool false] 30) = w1 at *
  go_loopw [3, 14] (fun m i wr => ∃ (j : Nat) (N : Int) (f : Nat → Bool), j ≤ n ∧ i = .int .i64 j ∧ m = .int .i64 N ∧ 0 ≤ N ∧ N ≤ 4095 ∧ (∀ k, k < 12 → f k = bitI N k) ∧ Below W.heap.size W wr ∧ Box wr W.heap.size (Arr12 f)) (fun _ i _ => n - (intOf i).toNat)
  case atStart => exact ⟨0, 0, fun _ => false, Nat.zero_le _, rfl, rfl, by omega, by omega, fun k hk => by rw [show (0 : Int) = ((0 : Nat) : Int) from rfl, bit_nat 0 k (by omega), Nat.zero_testBit], A1, B1⟩
  case round =>
    clear A1 B1
    obtain ⟨j, N, f, hj, rfl, rfl, N0, N1, hf, A1, B1⟩ := hrel
    by_cases hlt : j < n
    · obtain ⟨b, off, rfl, hbs, hcell⟩ := HI.out (by omega)
      obtain ⟨c0, c1, c2⟩ := hcell j hlt
      obtain ⟨r0, r1, x0, x1⟩ := HB.out j hlt
      clear hcell
      generalize R j = r at *
      generalize H j = x at *
      generalize K j = q at *
      obtain ⟨M, hM, HM, M0, M1⟩ : ∃ M, (if q = true then raV (acV N x) r else raV N r) = M ∧ (RowKit.Hid (∀ k, k < 12 → bitI M k = ((bitI N k && (!q || bitI x k)) || bitI r k))) ∧ 0 ≤ M ∧ M ≤ 4095 := by
        cases q
        · exact ⟨_, rfl, Lib.hid fun k hk => by simp [ra_bit _ _ k hk], ra_bd _ _⟩
        · exact ⟨_, rfl, Lib.hid fun k hk => by simp [ra_bit _ _ k hk, ac_bit _ _ k hk], ra_bd _ _⟩
      have HC := Lib.hid (And.intro c0 (And.intro c1 c2))
      have d0 := (A1.cell (p := ⟨b, off + j * 3, none⟩) hbs).trans c0
      have d1 := (A1.cell (p := ⟨b, off + j * 3 + 1, none⟩) hbs).trans c1
      have d2 := (A1.cell (p := ⟨b, off + j * 3 + 2, none⟩) hbs).trans c2
      have HF := Lib.hid hf
      clear c0 c1 c2 hf
      have HQ : RowKit.Hid (q = q) := Lib.hid rfl
      cases q
      all_goals
        simp only [Bool.false_eq_true, if_false, if_true] at hM
        go_wp2_with (first
          | (go_at_call 12; refine (lt_raise _ _ _).mono ?_; rintro e w' ⟨rfl, rfl⟩)
          | (go_at_call 14; refine (lt_ack _ _ _).mono ?_; rintro e w' ⟨rfl, rfl⟩))
        clear d0 d1 d2
        go_loopw [6, 38] (fun m i wr => ∃ (k : Nat) (f : Nat → Bool), k ≤ 12 ∧ i = .int .i64 k ∧ m = .int .i64 (cntK (bitI M) k : Nat) ∧ (∀ t, t < 12 → f t = if t < k then bitI M t else bitI N t) ∧ Below W.heap.size W wr ∧ Box wr W.heap.size (Arr12 f)) (fun _ i _ => 12 - (intOf i).toNat)
        case atStart => exact ⟨0, f, by omega, rfl, rfl, fun t ht => by simpa using HF.out t ht, A1, B1⟩
        case round =>
          clear B1 A1
          obtain ⟨k, f, hk, rfl, rfl, hf, A1, B1⟩ := hrel
          by_cases hk2 : k < 12
          · obtain ⟨c0, c1, c2⟩ := HC.out
            have d0 := (A1.cell (p := ⟨b, off + j * 3, none⟩) hbs).trans c0
            have d1 := (A1.cell (p := ⟨b, off + j * 3 + 1, none⟩) hbs).trans c1
            have d2 := (A1.cell (p := ⟨b, off + j * 3 + 2, none⟩) hbs).trans c2
            have g0 : wr.cell? ⟨W.heap.size, k, none⟩ = some (.bool (f k)) := (B1.2.1 k).trans (arr_get f k hk2)
            have gf := B1.2.2 k
            have gl := B1.1
            have e0 := hf k hk2
            rw [if_neg (Nat.lt_irrefl k)] at e0
            have s1 := sh16_bit x k x0 x1
            have s2 := sh16_bit r k r0 r1
            have s3 := sh_bit M k M0 M1
            have s4 := HM.out k hk2
            have s5 := cnt_le (bitI M) k
            have HE0 := Lib.hid e0
            have HS4 := Lib.hid s4
            have HF1 := Lib.hid hf
            have HB1 := Lib.hid B1
            rw [s4] at s3
            rw [e0] at g0
            clear c0 c1 c2 hf B1 e0 s4
            generalize hxb : bitI x k = xb at *
            generalize hrb : bitI r k = rb at *
            generalize hob : bitI N k = ob at *
            clear hxb hrb hob
            cases xb <;> cases rb <;> cases ob
            all_goals
              simp only [Bool.or_false, Bool.or_true, Bool.and_true, Bool.and_false, Bool.true_and, Bool.false_and, Bool.not_true, Bool.not_false, Bool.false_or, Bool.true_or, Bool.false_eq_true, if_false, if_true] at s1 s2 s3
              have HS := Lib.hid s3
              go_wp2
              try (go_region; go_wp2)
              go_roundw
              case rel =>
                first
                  | exact ⟨k + 1, f, by omega, by go_num, (by first | (rw [cnt_yes (show bitI M k = true from HS4.out)]; go_num; done) | (rw [cnt_no (show bitI M k = false from HS4.out)]; done)), (step_f HF1.out (by first | exact HE0.out.trans HS4.out.symm | (rw [HS4.out]; simp; done)) (fun t ht => by first | rfl | (simp [ht]; done))), by (repeat (first | (with_reducible exact Below.refl _ _) | (with_reducible assumption) | (with_reducible refine Near.up _ ?_) | (with_reducible refine Below.drew ?_) | (with_reducible refine below_alloc_on ?_ _) | (with_reducible refine below_set_on ?_ (by first | (simp; done) | (simp; omega) | omega) _))), HB1.out⟩
                  | exact ⟨k + 1, (fun i => if i = k then true else f i), by omega, by go_num, (by first | (rw [cnt_yes (show bitI M k = true from HS4.out)]; go_num; done) | (rw [cnt_no (show bitI M k = false from HS4.out)]; done)), (step_f HF1.out (by first | exact HE0.out.trans HS4.out.symm | (rw [HS4.out]; simp; done)) (fun t ht => by first | rfl | (simp [ht]; done))), by (repeat (first | (with_reducible exact Below.refl _ _) | (with_reducible assumption) | (with_reducible refine Near.up _ ?_) | (with_reducible refine Below.drew ?_) | (with_reducible refine below_alloc_on ?_ _) | (with_reducible refine below_set_on ?_ (by first | (simp; done) | (simp; omega) | omega) _))), (HB1.out.arr hk2 true)⟩
                  | exact ⟨k + 1, (fun i => if i = k then false else f i), by omega, by go_num, (by first | (rw [cnt_yes (show bitI M k = true from HS4.out)]; go_num; done) | (rw [cnt_no (show bitI M k = false from HS4.out)]; done)), (step_f HF1.out (by first | exact HE0.out.trans HS4.out.symm | (rw [HS4.out]; simp; done)) (fun t ht => by first | rfl | (simp [ht]; done))), by (repeat (first | (with_reducible exact Below.refl _ _) | (with_reducible assumption) | (with_reducible refine Near.up _ ?_) | (with_reducible refine Below.drew ?_) | (with_reducible refine below_alloc_on ?_ _) | (with_reducible refine below_set_on ?_ (by first | (simp; done) | (simp; omega) | omega) _))), (HB1.out.arr hk2 false)⟩
                  | exact ⟨k + 1, (fun i => if i = k then true else if i = k then false else f i), by omega, by go_num, (by first | (rw [cnt_yes (show bitI M k = true from HS4.out)]; go_num; done) | (rw [cnt_no (show bitI M k = false from HS4.out)]; done)), (step_f HF1.out (by first | exact HE0.out.trans HS4.out.symm | (rw [HS4.out]; simp; done)) (fun t ht => by first | rfl | (simp [ht]; done))), by (repeat (first | (with_reducible exact Below.refl _ _) | (with_reducible assumption) | (with_reducible refine Near.up _ ?_) | (with_reducible refine Below.drew ?_) | (with_reducible refine below_alloc_on ?_ _) | (with_reducible refine below_set_on ?_ (by first | (simp; done) | (simp; omega) | omega) _))), ((HB1.out.arr hk2 false).arr hk2 true)⟩
              case measure => simp [intOf]; omega
          · obtain rfl : k = 12 := by omega
            have s6 := wh_cnt M 12 (by omega)
            have s7 := lv_zero M M0 M1
            have HW := Lib.hid (fun w => lt_which M w)
            have HV := Lib.hid (fun w => lt_level M w)
            have HB1 := Lib.hid B1
            have HF1 := Lib.hid hf
            clear B1 hf
            have t3 : decide (M < 0) = false := decide_eq_false (by omega)
            have t4 : decide (4095 < M) = false := decide_eq_false (by omega)
            generalize whK M 12 = ys at *
            generalize cntK (bitI M) 12 = C at *
            subst s6
            generalize lvV M = L at *
            obtain ⟨t1, t2⟩ | ⟨t1, t2⟩ : ((L == 0) = true ∧ ((ys.length : Int) == 0) = true) ∨ ((L == 0) = false ∧ ((ys.length : Int) == 0) = false) := by
              by_cases hz : ys.length = 0
              · have := s7.2 hz
                subst this
                exact .inl ⟨rfl, by simp [hz]⟩
              · have : ¬ L = 0 := fun g => hz (s7.1 g)
                exact .inr ⟨by simpa using this, by simpa using hz⟩
            all_goals
              clear s7
              go_wp2_with (first
                | (go_at_call 19; refine (HW.out _).mono ?_; rintro e w5 ho; obtain ⟨B, d, rfl, hd, _, hb⟩ := ho.new; have A2 := below_call A1 hb; have B2 := HB1.out.below hb; have HB2 := Lib.hid B2; clear B2 ho)
                | (go_at_call 16; refine (HV.out _).mono ?_; rintro e w' ⟨rfl, rfl⟩))
              go_roundw
              case rel => exact ⟨j + 1, M, f, by omega, by go_num, rfl, M0, M1, fun t ht => by rw [HF1.out t ht, if_pos ht], A2, HB2.out⟩
              case measure => simp [intOf]; omega
    · go_wp2_with (go_at_call 21; refine (HA.out _).mono ?_; rintro e w2 ⟨rfl, hb⟩)
      go_ret
      exact ⟨rfl, below_call A1 hb⟩

theorem walk (W : World) (A : Option Addr) (n c : Nat) (rs : List (List Value)) (hi : Rows [.int .u16, .int .u16, .bool] W A n rs) (hc : n ≤ c) (hr : n * 6 ≤ 140737488351232) :
    Calls Try.prog 4 #[.slice A n c] W fun e W' => e = .returned (.bool true) ∧ Below W.heap.size W W' := by
  by_cases h : 100 < n
  · have t1 : decide (100 < (n : Int)) = true := decide_eq_true (by omega)
    have HA := Lib.hid law34_awake
    clear hi
    go_enter Try.func4, Try.ntmps4
    go_wp2_with (go_at_call 21; refine (HA.out _).mono ?_; rintro e w2 ⟨rfl, hb⟩)
    go_ret
    exact ⟨rfl, hb⟩
  · obtain ⟨R, H, K, hb, hd⟩ := deeds_of hi
    exact some_ W A n c R H K hd hb hc (by omega)

set_option maxRecDepth 100000 in
theorem lifted (os : Os) (started : os.Started) (H : Type) (enc : TypeId × Value → H) :
    ReturnsInHanded {} Try.checked os 4 .any (Rows.latchHoldsSpec.pre6 enc Try.prog Try.f4 Rows.latchHoldsRow.domain false) (Rows.latchHoldsSpec.post enc Try.prog Try.f4 false true false false) := by
  refine law_lift started (by kernel_rfl) Try.func4 rfl rfl ?_ (by kernel_rfl)
    (ChangeSpec.witness6 (enc := enc) (C := Try.checked) false ⟨#[], #[.slice none 0 0], []⟩ 8 (by kernel_rfl) (by kernel_rfl) (by kernel_rfl) (by kernel_rfl)) ?_
  · intro ds hl
    match ds, hl with
    | [_], _ => exact ⟨rfl, rfl, rfl⟩
  · intro W base args ds p hval hA hlt hwt
    rw [Try.params4] at hA hval hwt
    obtain ⟨v0, vs0, d0, ds0, p0, q0, hargs, rfl, rfl, h0, r0⟩ := trodAll_cons hA
    obtain ⟨rfl, rfl, rfl⟩ := trodAll_nil r0
    obtain rfl : args = #[v0] := by cases args; simp_all
    have wt0 : ∀ n ∈ d0.weights Try.prog 29, n ≤ reachBytes := fun n hn => by
      have := List.all_eq_true.1 hwt n (DataW.weights_mem_each (j := 0) (t := 29) (d := d0) rfl rfl n hn)
      simpa using this
    have lt0 : ∀ x ∈ p0, x.block < W.heap.size := fun x hx => hlt x (by simp [hx])
    obtain ⟨A0, n0, c0, xs0, rfl, hi0, hc0, hr0⟩ := open_rows_arg 5 [.int .u16, .int .u16, .bool] Try.underlying29 (by kernel_rfl) (by kernel_rfl) (by decide) (by kernel_rfl) (hval 0 29 v0 rfl rfl) h0 lt0 wt0
    exact walk W A0 n0 c0 xs0 hi0 hc0 hr0

theorem over : Rows.latchHoldsRow.holds Try.pinned (OpenSpec.ofChange Rows.latchHoldsSpec) :=
  OpenClaim.holds_of_wide 4 Try.f4 rfl rfl rfl rfl rfl rfl rfl ⟨rfl, rfl, rfl, rfl, rfl⟩ rfl rfl rfl rfl rfl (by kernel_rfl) Try.func4 (by kernel_rfl)
    (of_decide_eq_true (by kernel_rfl)) (by unfold Func.isWrapper; first | (rw [if_pos (by decide +kernel)]; kernel_rfl) | (rw [if_neg (by decide +kernel)]; exact ⟨rfl, rfl⟩))
    (fun os started H enc _ => lifted os started H enc)

theorem proved : Rows.LatchHoldsSaid := over
#print axioms proved
end Go.Proofs.Ythfipnccjnekfaa.latchHolds
