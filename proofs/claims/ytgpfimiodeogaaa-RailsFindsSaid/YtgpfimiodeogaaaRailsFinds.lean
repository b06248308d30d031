/- RailsFinds holds of every list of lights, whatever real numbers they are: light at its end is a fault in the fiftieth tick, and not sooner; a wrong record is one at once. No condition. -/
import Derived.Test.YtgpfimiodeogaaaRails
namespace Go.Proofs.Ytgpfimiodeogaaa.railsFinds
open Go.ChangeShapes Go.WideShapes Go.ChangeAt Go.RowKit Ieee
set_option linter.unusedVariables false
attribute [local go_sem] run_store_real o_eql o_neq o_lss o_gtr o_ge

theorem ra_up {s : Int} (s0 : 0 ≤ s) (s1 : s ≤ 1000) {a bad : Int} (h : eaB a bad = true) : raV s a bad = s + 1 := by
  unfold raV; rw [if_pos h, withR_2 s0 (by omega)]
theorem ra_no {s : Int} {a bad : Int} (h : eaB a bad = false) : raV s a bad = 0 := by
  unfold raV; rw [if_neg (by simp [h])]

set_option maxRecDepth 100000 in
set_option maxHeartbeats 4000000 in
theorem some_ (W : World) (A : Option Addr) (n c : Nat) (rs : List (List Value)) (hi : Rows [.float .f64] W A n rs) (hn : n ≤ 150) (hc : n ≤ c) :
    Calls Try.prog 3 #[.slice A n c] W fun e W' => e = .returned (.bool true) ∧ Below W.heap.size W W' := by
  have HI := Lib.hid hi
  have t1 : decide (150 < (n : Int)) = false := decide_eq_false (by omega)
  have A0 : Below W.heap.size W W := Below.refl _ _
  clear hi
  go_enter Try.func3, Try.ntmps3
  go_wp2
  go_loopw [3, 4, 14] (fun r s i wr => ∃ (j : Nat) (S0 : Int), j ≤ n ∧ 0 ≤ S0 ∧ S0 ≤ j ∧ i = .int .i64 j ∧ r = .int .i64 S0 ∧ s = .int .i64 S0 ∧ Below W.heap.size W wr) (fun _ _ i _ => n - (intOf i).toNat)
  case atStart => exact ⟨0, 0, Nat.zero_le _, by omega, by omega, rfl, rfl, rfl, A0⟩
  case round =>
    clear A0
    obtain ⟨j, S0, hj, s0, s1, rfl, rfl, rfl, A1⟩ := hrel
    by_cases hlt : j < n
    · obtain ⟨b, off, x, rfl, hbs, hck, hx⟩ := real_at HI.out A1 hlt
      have hL := light_is x
      have HT := fun w => take_light x w
      have HK := Lib.hid (fun w => r_kind x hx w)
      have hF1 : ∀ s, 0 ≤ s → faB s 1 = true := fun s _ => by simp [faB]
      have hF0 : ∀ s, faB s 0 = decide (50 ≤ s) := fun s => by simp [faB]
      clear HI
      unfold Light at hL
      generalize kdV x = kd at *
      generalize tkV x 0 4095 = tv at *
      generalize tkB x 0 4095 = tb at *
      rcases hL with ⟨k1, rfl, rfl⟩ | ⟨k1, k2, rfl, rfl⟩ | ⟨k1, k2, k3, rfl, rfl⟩ | ⟨k1, k2, k3, k4, rfl, rfl⟩ | ⟨k1, k2, k3, k4, k5, rfl, rfl⟩ | ⟨a, k1, k2, k3, k4, k5, a1, a2, rfl, rfl⟩
      · simp only [show mkV true 1 = 1 from rfl] at HT
        have HT2 := Lib.hid HT
        have HS := Lib.hid (show ∀ w, Calls Try.prog 6 #[.int .i64 S0, .int .i64 0, .int .i64 1] w fun e w' => e = .returned (.int .i64 (S0 + 1)) ∧ w = w' from fun w => by
          have := ra_step S0 0 1 w
          rwa [ra_up s0 (by omega) (by decide)] at this)
        have HFa := Lib.hid (show ∀ w, Calls Try.prog 8 #[.int .i64 (S0 + 1), .int .i64 1] w fun e w' => e = .returned (.bool true) ∧ w = w' from fun w => by
          have := ra_fault (S0 + 1) 1 w
          rwa [hF1 _ (by omega)] at this)
        clear HT
        go_wp2_with (fail)
        refine (HT2.out _).mono ?_
        rintro e w2 ⟨rfl, hb⟩
        have A2 := below_alloc_on (below_call A1 hb) (.cells #[.int .i64 0, .int .i64 0, .int .i64 0, .int .i64 0, .bool false, .int .i64 0, .bool false, .int .i64 1] 25)
        have hck2 := (hb.cell (p := ⟨b, off + j, none⟩) hbs).trans hck
        have hbs2 : b < w2.heap.size := Nat.lt_of_lt_of_le hbs hb.size
        clear hb hck hbs
        go_wp2_with (first
          | (go_at_call 6; refine (HS.out _).mono ?_; rintro e w' ⟨rfl, rfl⟩)
          | (go_at_call 7; refine (HK.out _).mono ?_; rintro e w' ⟨rfl, rfl⟩)
          | (go_at_call 8; refine (HFa.out _).mono ?_; rintro e w' ⟨rfl, rfl⟩))
        go_roundw
        case rel => exact ⟨j + 1, (S0 + 1), by omega, by omega, by omega, by go_num, rfl, rfl, A2⟩
        case measure => simp [intOf]; omega
      · simp only [show mkV true 1 = 1 from rfl] at HT
        have HT2 := Lib.hid HT
        have HS := Lib.hid (show ∀ w, Calls Try.prog 6 #[.int .i64 S0, .int .i64 0, .int .i64 1] w fun e w' => e = .returned (.int .i64 (S0 + 1)) ∧ w = w' from fun w => by
          have := ra_step S0 0 1 w
          rwa [ra_up s0 (by omega) (by decide)] at this)
        have HFa := Lib.hid (show ∀ w, Calls Try.prog 8 #[.int .i64 (S0 + 1), .int .i64 1] w fun e w' => e = .returned (.bool true) ∧ w = w' from fun w => by
          have := ra_fault (S0 + 1) 1 w
          rwa [hF1 _ (by omega)] at this)
        clear HT
        go_wp2_with (fail)
        refine (HT2.out _).mono ?_
        rintro e w2 ⟨rfl, hb⟩
        have A2 := below_alloc_on (below_call A1 hb) (.cells #[.int .i64 0, .int .i64 0, .int .i64 0, .int .i64 0, .bool false, .int .i64 0, .bool false, .int .i64 1] 25)
        have hck2 := (hb.cell (p := ⟨b, off + j, none⟩) hbs).trans hck
        have hbs2 : b < w2.heap.size := Nat.lt_of_lt_of_le hbs hb.size
        clear hb hck hbs
        go_wp2_with (first
          | (go_at_call 6; refine (HS.out _).mono ?_; rintro e w' ⟨rfl, rfl⟩)
          | (go_at_call 7; refine (HK.out _).mono ?_; rintro e w' ⟨rfl, rfl⟩)
          | (go_at_call 8; refine (HFa.out _).mono ?_; rintro e w' ⟨rfl, rfl⟩))
        go_roundw
        case rel => exact ⟨j + 1, (S0 + 1), by omega, by omega, by omega, by go_num, rfl, rfl, A2⟩
        case measure => simp [intOf]; omega
      · simp only [show mkV true 1 = 1 from rfl] at HT
        have HT2 := Lib.hid HT
        have HS := Lib.hid (show ∀ w, Calls Try.prog 6 #[.int .i64 S0, .int .i64 4095, .int .i64 1] w fun e w' => e = .returned (.int .i64 (S0 + 1)) ∧ w = w' from fun w => by
          have := ra_step S0 4095 1 w
          rwa [ra_up s0 (by omega) (by decide)] at this)
        have HFa := Lib.hid (show ∀ w, Calls Try.prog 8 #[.int .i64 (S0 + 1), .int .i64 1] w fun e w' => e = .returned (.bool true) ∧ w = w' from fun w => by
          have := ra_fault (S0 + 1) 1 w
          rwa [hF1 _ (by omega)] at this)
        clear HT
        go_wp2_with (fail)
        refine (HT2.out _).mono ?_
        rintro e w2 ⟨rfl, hb⟩
        have A2 := below_alloc_on (below_call A1 hb) (.cells #[.int .i64 4095, .int .i64 0, .int .i64 0, .int .i64 0, .bool false, .int .i64 0, .bool false, .int .i64 1] 25)
        have hck2 := (hb.cell (p := ⟨b, off + j, none⟩) hbs).trans hck
        have hbs2 : b < w2.heap.size := Nat.lt_of_lt_of_le hbs hb.size
        clear hb hck hbs
        go_wp2_with (first
          | (go_at_call 6; refine (HS.out _).mono ?_; rintro e w' ⟨rfl, rfl⟩)
          | (go_at_call 7; refine (HK.out _).mono ?_; rintro e w' ⟨rfl, rfl⟩)
          | (go_at_call 8; refine (HFa.out _).mono ?_; rintro e w' ⟨rfl, rfl⟩))
        go_roundw
        case rel => exact ⟨j + 1, (S0 + 1), by omega, by omega, by omega, by go_num, rfl, rfl, A2⟩
        case measure => simp [intOf]; omega
      · obtain ⟨D, hD⟩ : ∃ D, decide (50 ≤ S0 + 1) = D := ⟨_, rfl⟩
        simp only [show mkV false 1 = 0 from rfl] at HT
        have HT2 := Lib.hid HT
        have HS := Lib.hid (show ∀ w, Calls Try.prog 6 #[.int .i64 S0, .int .i64 0, .int .i64 0] w fun e w' => e = .returned (.int .i64 (S0 + 1)) ∧ w = w' from fun w => by
          have := ra_step S0 0 0 w
          rwa [ra_up s0 (by omega) (by decide)] at this)
        have HFa := Lib.hid (show ∀ w, Calls Try.prog 8 #[.int .i64 (S0 + 1), .int .i64 0] w fun e w' => e = .returned (.bool D) ∧ w = w' from fun w => by
          have := ra_fault (S0 + 1) 0 w
          rwa [hF0, hD] at this)
        clear HT
        go_wp2_with (fail)
        refine (HT2.out _).mono ?_
        rintro e w2 ⟨rfl, hb⟩
        have A2 := below_alloc_on (below_call A1 hb) (.cells #[.int .i64 0, .int .i64 0, .int .i64 0, .int .i64 0, .bool false, .int .i64 0, .bool false, .int .i64 0] 25)
        have hck2 := (hb.cell (p := ⟨b, off + j, none⟩) hbs).trans hck
        have hbs2 : b < w2.heap.size := Nat.lt_of_lt_of_le hbs hb.size
        clear hb hck hbs
        go_wp2_with (first
          | (go_at_call 6; refine (HS.out _).mono ?_; rintro e w' ⟨rfl, rfl⟩)
          | (go_at_call 7; refine (HK.out _).mono ?_; rintro e w' ⟨rfl, rfl⟩)
          | (go_at_call 8; refine (HFa.out _).mono ?_; rintro e w' ⟨rfl, rfl⟩))
        go_roundw
        case rel => exact ⟨j + 1, (S0 + 1), by omega, by omega, by omega, by go_num, rfl, rfl, A2⟩
        case measure => simp [intOf]; omega
      · obtain ⟨D, hD⟩ : ∃ D, decide (50 ≤ S0 + 1) = D := ⟨_, rfl⟩
        simp only [show mkV false 1 = 0 from rfl] at HT
        have HT2 := Lib.hid HT
        have HS := Lib.hid (show ∀ w, Calls Try.prog 6 #[.int .i64 S0, .int .i64 4095, .int .i64 0] w fun e w' => e = .returned (.int .i64 (S0 + 1)) ∧ w = w' from fun w => by
          have := ra_step S0 4095 0 w
          rwa [ra_up s0 (by omega) (by decide)] at this)
        have HFa := Lib.hid (show ∀ w, Calls Try.prog 8 #[.int .i64 (S0 + 1), .int .i64 0] w fun e w' => e = .returned (.bool D) ∧ w = w' from fun w => by
          have := ra_fault (S0 + 1) 0 w
          rwa [hF0, hD] at this)
        clear HT
        go_wp2_with (fail)
        refine (HT2.out _).mono ?_
        rintro e w2 ⟨rfl, hb⟩
        have A2 := below_alloc_on (below_call A1 hb) (.cells #[.int .i64 4095, .int .i64 0, .int .i64 0, .int .i64 0, .bool false, .int .i64 0, .bool false, .int .i64 0] 25)
        have hck2 := (hb.cell (p := ⟨b, off + j, none⟩) hbs).trans hck
        have hbs2 : b < w2.heap.size := Nat.lt_of_lt_of_le hbs hb.size
        clear hb hck hbs
        go_wp2_with (first
          | (go_at_call 6; refine (HS.out _).mono ?_; rintro e w' ⟨rfl, rfl⟩)
          | (go_at_call 7; refine (HK.out _).mono ?_; rintro e w' ⟨rfl, rfl⟩)
          | (go_at_call 8; refine (HFa.out _).mono ?_; rintro e w' ⟨rfl, rfl⟩))
        go_roundw
        case rel => exact ⟨j + 1, (S0 + 1), by omega, by omega, by omega, by go_num, rfl, rfl, A2⟩
        case measure => simp [intOf]; omega
      · simp only [show mkV false 1 = 0 from rfl] at HT
        have HT2 := Lib.hid HT
        have HS := Lib.hid (show ∀ w, Calls Try.prog 6 #[.int .i64 S0, .int .i64 tv, .int .i64 0] w fun e w' => e = .returned (.int .i64 0) ∧ w = w' from fun w => by
          have := ra_step S0 tv 0 w
          rwa [ra_no (by simp [eaB]; omega)] at this)
        have HFa := Lib.hid (show ∀ w, Calls Try.prog 8 #[.int .i64 0, .int .i64 0] w fun e w' => e = .returned (.bool false) ∧ w = w' from fun w => by
          have := ra_fault 0 0 w
          rwa [hF0, show decide ((50 : Int) ≤ 0) = false from rfl] at this)
        clear HT
        go_wp2_with (fail)
        refine (HT2.out _).mono ?_
        rintro e w2 ⟨rfl, hb⟩
        have A2 := below_alloc_on (below_call A1 hb) (.cells #[.int .i64 tv, .int .i64 0, .int .i64 0, .int .i64 0, .bool false, .int .i64 0, .bool false, .int .i64 0] 25)
        have hck2 := (hb.cell (p := ⟨b, off + j, none⟩) hbs).trans hck
        have hbs2 : b < w2.heap.size := Nat.lt_of_lt_of_le hbs hb.size
        clear hb hck hbs
        go_wp2_with (first
          | (go_at_call 6; refine (HS.out _).mono ?_; rintro e w' ⟨rfl, rfl⟩)
          | (go_at_call 7; refine (HK.out _).mono ?_; rintro e w' ⟨rfl, rfl⟩)
          | (go_at_call 8; refine (HFa.out _).mono ?_; rintro e w' ⟨rfl, rfl⟩))
        go_roundw
        case rel => exact ⟨j + 1, 0, by omega, by omega, by omega, by go_num, rfl, rfl, A2⟩
        case measure => simp [intOf]; omega
    · obtain rfl : j = n := by omega
      go_wp2_with (go_at_call 4; refine (law21_awake _).mono ?_; rintro e w' ⟨rfl, rfl⟩)
      all_goals go_ret
      all_goals exact ⟨rfl, A1⟩

theorem walk (W : World) (A : Option Addr) (n c : Nat) (rs : List (List Value)) (hi : Rows [.float .f64] W A n rs) (hc : n ≤ c) (hr : n * 8 ≤ 140737488351232) :
    Calls Try.prog 3 #[.slice A n c] W fun e W' => e = .returned (.bool true) ∧ Below W.heap.size W W' := by
  by_cases h : 150 < n
  · have t1 : decide (150 < (n : Int)) = true := decide_eq_true (by omega)
    clear hi
    go_enter Try.func3, Try.ntmps3
    go_wp2_with (go_at_call 4; refine (law21_awake _).mono ?_; rintro e w' ⟨rfl, rfl⟩)
    all_goals go_ret
    all_goals exact ⟨rfl, Below.refl _ _⟩
  · exact some_ W A n c rs hi (by omega) hc

theorem lifted (os : Os) (started : os.Started) (H : Type) (enc : TypeId × Value → H) :
    ReturnsInHanded {} Try.checked os 3 .any (Rows.railsFindsSpec.pre6 enc Try.prog Try.f3 Rows.railsFindsRow.domain false) (Rows.railsFindsSpec.post enc Try.prog Try.f3 false true false false) := by
  refine law_lift started (by kernel_rfl) Try.func3 rfl rfl ?_ (by kernel_rfl)
    (ChangeSpec.witness6 (enc := enc) (C := Try.checked) false ⟨#[], #[.slice none 0 0], []⟩ 8 (by kernel_rfl) (by kernel_rfl) (by kernel_rfl) (by kernel_rfl)) ?_
  · intro ds hl
    match ds, hl with
    | [_], _ => exact ⟨rfl, rfl, rfl⟩
  · intro W base args ds p hval hA hlt hwt
    rw [Try.params3] at hA hval hwt
    obtain ⟨v0, vs0, d0, ds0, p0, q0, hargs, rfl, rfl, h0, r0⟩ := trodAll_cons hA
    obtain ⟨rfl, rfl, rfl⟩ := trodAll_nil r0
    obtain rfl : args = #[v0] := by cases args; simp_all
    have wt0 : ∀ n ∈ d0.weights Try.prog 22, n ≤ reachBytes := fun n hn => by
      have := List.all_eq_true.1 hwt n (DataW.weights_mem_each (j := 0) (t := 22) (d := d0) rfl rfl n hn)
      simpa using this
    have lt0 : ∀ x ∈ p0, x.block < W.heap.size := fun x hx => hlt x (by simp [hx])
    obtain ⟨A0, n0, c0, xs0, rfl, hi0, hc0, hr0⟩ := open_rows_arg 5 [.float .f64] Try.underlying22 (by kernel_rfl) (by kernel_rfl) (by decide) (by kernel_rfl) (hval 0 22 v0 rfl rfl) h0 lt0 wt0
    exact walk W A0 n0 c0 xs0 hi0 hc0 hr0

theorem over : Rows.railsFindsRow.holds Try.pinned (OpenSpec.ofChange Rows.railsFindsSpec) :=
  OpenClaim.holds_of_wide 3 Try.f3 rfl rfl rfl rfl rfl rfl rfl ⟨rfl, rfl, rfl, rfl, rfl⟩ rfl rfl rfl rfl rfl (by kernel_rfl) Try.func3 (by kernel_rfl)
    (of_decide_eq_true (by kernel_rfl)) (by unfold Func.isWrapper; first | (rw [if_pos (by decide +kernel)]; kernel_rfl) | (rw [if_neg (by decide +kernel)]; exact ⟨rfl, rfl⟩))
    (fun os started H enc _ => lifted os started H enc)

theorem proved : Rows.RailsFindsSaid := over
#print axioms proved
end Go.Proofs.Ytgpfimiodeogaaa.railsFinds
