/- SlewGets holds of any two openings and any two steps: it never goes beyond what is wanted, and gets there in as many steps as are needed. No condition. -/
import Derived.Test.YtbglkokdnkcknaaSlew
import Derived.Test.YtbglkokdnkcknaaLift
import Derived.Test.YtbglkokdnkcknaaArr
namespace Go.Proofs.Ytbglkokdnkcknaa.slewGets
open Go.ChangeShapes Go.WideShapes Go.ChangeAt Go.RowKit
set_option linter.unusedVariables false
attribute [local go_sem] Near.cell Near.frozen

/-- How many steps are left. -/
def lefN (far by_ : Nat) : Nat := (far + by_ - 1) / by_
theorem lef_zero {b : Nat} (h : 0 < b) : lefN 0 b = 0 := by unfold lefN; exact Nat.div_eq_of_lt (by omega)
theorem lef_pos {f b : Nat} (hb : 0 < b) (h : 0 < f) : lefN f b = lefN (f - b) b + 1 := by
  unfold lefN
  by_cases g : b ≤ f
  · rw [show f + b - 1 = (f - b + b - 1) + b by omega, Nat.add_div_right _ hb]
  · rw [show f - b = 0 by omega, show f + b - 1 = (f - 1) + b by omega, Nat.add_div_right _ hb, Nat.div_eq_of_lt (show f - 1 < b by omega), Nat.div_eq_of_lt (show 0 + b - 1 < b by omega)]
theorem lef_iff {f b : Nat} (hb : 0 < b) : lefN f b = 0 ↔ f = 0 := by
  constructor
  · intro h
    rcases Nat.eq_zero_or_pos f with e | e
    · exact e
    · rw [lef_pos hb e] at h; omega
  · rintro rfl; exact lef_zero hb
theorem lef_le {f b : Nat} (hb : 0 < b) : lefN f b ≤ f := by
  induction f using Nat.strongRecOn with
  | _ f ih =>
    rcases Nat.eq_zero_or_pos f with e | e
    · subst e; rw [lef_zero hb]; omega
    · rw [lef_pos hb e]; have := ih (f - b) (by omega); omega
theorem lef_div {f b : Nat} (h : 0 < b) : ((f : Int) + b - 1) / b = (lefN f b : Nat) := by
  unfold lefN
  rw [Int.natCast_ediv]
  congr 1
  omega

set_option maxRecDepth 100000 in
set_option maxHeartbeats 2000000 in
theorem way (a b p q : Int) (a0 : 0 ≤ a) (a1 : a ≤ 65535) (b0 : 0 ≤ b) (b1 : b ≤ 65535) (p0 : 0 ≤ p) (p1 : p ≤ 255) (q0 : 0 ≤ q) (q1 : q ≤ 255) (W : World) (x w : Int)
    (hx : a % 301 = x) (hw : b % 301 = w) (x0 : 0 ≤ x) (x1 : x ≤ 300) (w0 : 0 ≤ w) (w1 : w ≤ 300) :
    Calls Try.prog 4 #[.int .u16 a, .int .u16 b, .agg #[.int .u8 p, .int .u8 q]] W fun e W' => e = .returned (.bool true) ∧ Below W.heap.size W W' := by
  have A0 : Below W.heap.size W W := Below.refl _ _
  have hp : IntKind.i64.wrap p = p := IntWalk.i64_in _ (by omega)
  have hq : IntKind.i64.wrap q = q := IntWalk.i64_in _ (by omega)
  have hp1 : IntKind.i64.wrap (1 + p) = 1 + p := IntWalk.i64_in _ (by omega)
  have hq1 : IntKind.i64.wrap (1 + q) = 1 + q := IntWalk.i64_in _ (by omega)
  have B1 := box_new W #[.int .u8 p, .int .u8 q] 27
  obtain ⟨c0, c1, cf, cl⟩ := B1.two
  have A1 := below_alloc_on A0 (.cells #[.int .u8 p, .int .u8 q] 27)
  go_enter Try.func4, Try.ntmps4
  go_wp2
  generalize W.alloc (.cells #[.int .u8 p, .int .u8 q] 27) = w2 at *
  refine wp_region_calm (by kernel_rfl) (by kernel_rfl) ?_
  repeat (go_big_quiet_step ((fail)))
  refine wpQuiet_nil ?_
  intro _ hw'
  obtain ⟨u, rfl⟩ := hw'
  have A2 := u.up A1
  clear hx hw
  obtain ⟨up, hup⟩ : ∃ n : Nat, 1 + p = (n : Int) := ⟨(1 + p).toNat, by omega⟩
  obtain ⟨down, hdown⟩ : ∃ n : Nat, 1 + q = (n : Int) := ⟨(1 + q).toNat, by omega⟩
  simp only [hup, hdown]
  generalize u.at_ = w3 at *
  clear c0 c1 cf cl B1 A1 hp hq hp1 hq1 u
  rcases (by omega : w < x ∨ x ≤ w) with g | g
  · have t1 := decide_eq_true g
    obtain ⟨far, hfar⟩ : ∃ n : Nat, x - w = (n : Int) := ⟨(x - w).toNat, by omega⟩
    have d0 : 0 < down := by omega
    obtain ⟨n, hn⟩ : ∃ n : Nat, lefN far down = n := ⟨_, rfl⟩
    have hn2 : ((far : Int) + down - 1) / down = (n : Int) := by rw [lef_div d0, hn]
    have n1 : n ≤ 300 := by have := lef_le (f := far) d0; omega
    have d1 : down ≤ 256 := by omega
    have u1 : up ≤ 256 := by omega
    have u0 : 0 < up := by omega
    have HN := Lib.hid hn
    have XE := Lib.hid (show x = w + far by omega)
    clear hn
    go_wp2
    simp only [hn2]
    clear hn2 hup hdown p0 p1 q0 q1 t1
    go_loopw [7, 50] (fun v i wr => ∃ (j r : Nat), j ≤ n + 2 ∧ i = .int .i64 j ∧ v = .int .i64 (w + r) ∧ w + r ≤ 300 ∧ Hid (lefN r down = n - j) ∧ Below W.heap.size W wr) (fun _ i _ => n + 2 - (intOf i).toNat)
    case atStart => exact ⟨0, far, by omega, rfl, by rw [XE.out], by omega, Lib.hid (by rw [HN.out]; rfl), A2⟩
    case round =>
      clear A2 XE hfar HN g x0 x1
      obtain ⟨j, r, hj, rfl, rfl, r1, HR, A2⟩ := hrel
      by_cases hlt : j < n + 2
      · obtain ⟨s, hs⟩ : ∃ s, r - down = s := ⟨_, rfl⟩
        have hv : slV (w + r) w up down = w + s := by unfold slV fuV; omega
        have HS := Lib.hid (fun W => sl_step (w + r) w up down W)
        rw [hv] at HS
        have hz : r = 0 ↔ n ≤ j := by have := lef_iff (f := r) d0; rw [HR.out] at this; omega
        have hq : lefN s down = n - (j + 1) := by
          have := HR.out
          rcases Nat.eq_zero_or_pos r with e | e
          · rw [show s = 0 by omega, lef_zero d0]; omega
          · rw [lef_pos d0 e, hs] at this; omega
        have hz2 : s = 0 ↔ n ≤ j + 1 := by have := lef_iff (f := s) d0; rw [hq] at this; omega
        have HQ := Lib.hid hq
        clear hq hv
        rcases (by omega : n ≤ j ∨ (j < n ∧ n ≤ j + 1) ∨ j + 1 < n) with h | ⟨h, h2⟩ | h
        · obtain rfl : r = 0 := hz.2 h
          obtain rfl : s = 0 := by omega
          have t2 : (w == w) = true := by simp
          have t3 : decide ((j : Int) < n) = false := decide_eq_false (by omega)
          have t4 : decide ((n : Int) - 1 ≤ j) = true := decide_eq_true (by omega)
          simp only [Int.add_zero, Int.cast_ofNat_Int] at HS
          clear hz hz2 hs
          go_wp2_with (go_at_call 14; refine (HS.out _).mono ?_; rintro e w' ⟨rfl, rfl⟩)
          go_roundw
          case rel => exact ⟨j + 1, 0, by omega, by go_num, by simp, by omega, HQ, A2⟩
          case measure => simp [intOf]; omega
        · obtain rfl : s = 0 := hz2.2 h2
          have r0 : 0 < r := by omega
          have t2 : (w == w) = true := by simp
          have t3 : decide ((j : Int) < n) = true := decide_eq_true (by omega)
          have t4 : decide ((n : Int) - 1 ≤ j) = true := decide_eq_true (by omega)
          simp only [Int.add_zero, Int.cast_ofNat_Int] at HS
          clear hz hz2
          go_wp2_with (go_at_call 14; refine (HS.out _).mono ?_; rintro e w' ⟨rfl, rfl⟩)
          go_roundw
          case rel => exact ⟨j + 1, 0, by omega, by go_num, by simp, by omega, HQ, A2⟩
          case measure => simp [intOf]; omega
        · have s0 : 0 < s := by omega
          have t2 : (w + (s : Int) == w) = false := by simp; omega
          have t3 : decide ((j : Int) < n) = true := decide_eq_true (by omega)
          have t4 : decide ((n : Int) - 1 ≤ j) = false := decide_eq_false (by omega)
          have hsr : s ≤ r := by omega
          have hrs : r ≤ s + down := by omega
          clear hz hz2 hs
          go_wp2_with (go_at_call 14; refine (HS.out _).mono ?_; rintro e w' ⟨rfl, rfl⟩)
          go_roundw
          case rel => exact ⟨j + 1, s, by omega, by go_num, rfl, by omega, HQ, A2⟩
          case measure => simp [intOf]; omega
      · obtain rfl : j = n + 2 := by omega
        obtain rfl : r = 0 := (lef_iff d0).1 (by rw [HR.out]; omega)
        have t2 : (w == w) = true := by simp
        go_wp2_with (go_at_call 16; refine (law28_awake _).mono ?_; rintro e w' ⟨rfl, rfl⟩)
        all_goals go_ret
        all_goals exact ⟨rfl, A2⟩
  · have t1 : decide (w < x) = false := decide_eq_false (by omega)
    obtain ⟨far, hfar⟩ : ∃ n : Nat, w - x = (n : Int) := ⟨(w - x).toNat, by omega⟩
    have d0 : 0 < up := by omega
    obtain ⟨n, hn⟩ : ∃ n : Nat, lefN far up = n := ⟨_, rfl⟩
    have hn2 : ((far : Int) + up - 1) / up = (n : Int) := by rw [lef_div d0, hn]
    have n1 : n ≤ 300 := by have := lef_le (f := far) d0; omega
    have d1 : up ≤ 256 := by omega
    have u1 : down ≤ 256 := by omega
    have u0 : 0 < down := by omega
    have HN := Lib.hid hn
    have XE := Lib.hid (show x = w - far by omega)
    clear hn
    go_wp2
    simp only [hn2]
    clear hn2 hup hdown p0 p1 q0 q1 t1
    go_loopw [7, 50] (fun v i wr => ∃ (j r : Nat), j ≤ n + 2 ∧ i = .int .i64 j ∧ v = .int .i64 (w - r) ∧ 0 ≤ w - r ∧ Hid (lefN r up = n - j) ∧ Below W.heap.size W wr) (fun _ i _ => n + 2 - (intOf i).toNat)
    case atStart => exact ⟨0, far, by omega, rfl, by rw [XE.out], by omega, Lib.hid (by rw [HN.out]; rfl), A2⟩
    case round =>
      clear A2 XE hfar HN g x0 x1
      obtain ⟨j, r, hj, rfl, rfl, r1, HR, A2⟩ := hrel
      by_cases hlt : j < n + 2
      · obtain ⟨s, hs⟩ : ∃ s, r - up = s := ⟨_, rfl⟩
        have hv : slV (w - r) w up down = w - s := by unfold slV fuV; omega
        have HS := Lib.hid (fun W => sl_step (w - r) w up down W)
        rw [hv] at HS
        have hz : r = 0 ↔ n ≤ j := by have := lef_iff (f := r) d0; rw [HR.out] at this; omega
        have hq : lefN s up = n - (j + 1) := by
          have := HR.out
          rcases Nat.eq_zero_or_pos r with e | e
          · rw [show s = 0 by omega, lef_zero d0]; omega
          · rw [lef_pos d0 e, hs] at this; omega
        have hz2 : s = 0 ↔ n ≤ j + 1 := by have := lef_iff (f := s) d0; rw [hq] at this; omega
        have HQ := Lib.hid hq
        clear hq hv
        rcases (by omega : n ≤ j ∨ (j < n ∧ n ≤ j + 1) ∨ j + 1 < n) with h | ⟨h, h2⟩ | h
        · obtain rfl : r = 0 := hz.2 h
          obtain rfl : s = 0 := by omega
          have t2 : (w == w) = true := by simp
          have t3 : decide ((j : Int) < n) = false := decide_eq_false (by omega)
          have t4 : decide ((n : Int) - 1 ≤ j) = true := decide_eq_true (by omega)
          simp only [Int.sub_zero, Int.cast_ofNat_Int] at HS
          clear hz hz2 hs
          go_wp2_with (go_at_call 14; refine (HS.out _).mono ?_; rintro e w' ⟨rfl, rfl⟩)
          go_roundw
          case rel => exact ⟨j + 1, 0, by omega, by go_num, by simp, by omega, HQ, A2⟩
          case measure => simp [intOf]; omega
        · obtain rfl : s = 0 := hz2.2 h2
          have r0 : 0 < r := by omega
          have t2 : (w == w) = true := by simp
          have t3 : decide ((j : Int) < n) = true := decide_eq_true (by omega)
          have t4 : decide ((n : Int) - 1 ≤ j) = true := decide_eq_true (by omega)
          simp only [Int.sub_zero, Int.cast_ofNat_Int] at HS
          clear hz hz2
          go_wp2_with (go_at_call 14; refine (HS.out _).mono ?_; rintro e w' ⟨rfl, rfl⟩)
          go_roundw
          case rel => exact ⟨j + 1, 0, by omega, by go_num, by simp, by omega, HQ, A2⟩
          case measure => simp [intOf]; omega
        · have s0 : 0 < s := by omega
          have t2 : (w - (s : Int) == w) = false := by simp; omega
          have t3 : decide ((j : Int) < n) = true := decide_eq_true (by omega)
          have t4 : decide ((n : Int) - 1 ≤ j) = false := decide_eq_false (by omega)
          have hsr : s ≤ r := by omega
          have hrs : r ≤ s + up := by omega
          clear hz hz2 hs
          go_wp2_with (go_at_call 14; refine (HS.out _).mono ?_; rintro e w' ⟨rfl, rfl⟩)
          go_roundw
          case rel => exact ⟨j + 1, s, by omega, by go_num, rfl, by omega, HQ, A2⟩
          case measure => simp [intOf]; omega
      · obtain rfl : j = n + 2 := by omega
        obtain rfl : r = 0 := (lef_iff d0).1 (by rw [HR.out]; omega)
        have t2 : (w == w) = true := by simp
        go_wp2_with (go_at_call 16; refine (law28_awake _).mono ?_; rintro e w' ⟨rfl, rfl⟩)
        all_goals go_ret
        all_goals exact ⟨rfl, A2⟩

theorem walk (a : Int) (wa : (Lit.int .u16 a).wf = true) (b : Int) (wb : (Lit.int .u16 b).wf = true) (k0 : Int) (w0 : (Lit.int .u8 k0).wf = true) (k1 : Int) (w1 : (Lit.int .u8 k1).wf = true) (W : World) :
    Calls Try.prog 4 #[.int .u16 a, .int .u16 b, .agg #[.int .u8 k0, .int .u8 k1]] W fun e W' => e = .returned (.bool true) ∧ Below W.heap.size W W' := by
  simp only [Lit.wf, IntKind.min, IntKind.max, IntKind.signed, IntKind.bits, Bool.and_eq_true] at wa wb w0 w1
  simp at wa wb w0 w1
  exact way a b k0 k1 (by omega) (by omega) (by omega) (by omega) (by omega) (by omega) (by omega) (by omega) W _ _ rfl rfl (by omega) (by omega) (by omega) (by omega)

theorem lifted (os : Os) (started : os.Started) (H : Type) (enc : TypeId × Value → H) :
    ReturnsInHanded {} Try.checked os 4 .any (Rows.slewGetsSpec.pre6 enc Try.prog Try.f4 Rows.slewGetsRow.domain false) (Rows.slewGetsSpec.post enc Try.prog Try.f4 false true false false) := by
  refine law_lift started (by kernel_rfl) Try.func4 rfl rfl ?_ (by kernel_rfl)
    (ChangeSpec.witness6 (enc := enc) (C := Try.checked) false ⟨#[], #[.int .u16 0, .int .u16 0, .agg #[.int .u8 0, .int .u8 0]], []⟩ 8 (by kernel_rfl) (by kernel_rfl) (by kernel_rfl) (by kernel_rfl)) ?_
  · intro ds hl
    match ds, hl with
    | [_, _, _], _ => exact ⟨rfl, rfl, rfl⟩
  · intro W base args ds p hval hA hlt hwt
    rw [Try.params4] at hA hval hwt
    obtain ⟨v0, vs0, d0, ds0, p0, q0, hargs, rfl, rfl, h0, r0⟩ := trodAll_cons hA
    obtain ⟨v1, vs1, d1, ds1, p1, q1, rfl, rfl, rfl, h1, r1⟩ := trodAll_cons r0
    obtain ⟨v2, vs2, d2, ds2, p2, q2, rfl, rfl, rfl, h2, r2⟩ := trodAll_cons r1
    obtain ⟨rfl, rfl, rfl⟩ := trodAll_nil r2
    obtain rfl : args = #[v0, v1, v2] := by cases args; simp_all
    obtain ⟨a0, rfl, rfl, rfl, w0⟩ := open_int Try.underlying26 (hval 0 26 v0 rfl rfl) h0
    obtain ⟨a1, rfl, rfl, rfl, w1⟩ := open_int Try.underlying26 (hval 1 26 v1 rfl rfl) h1
    obtain ⟨xs2, rfl, l2, w2⟩ := open_int_cells Try.underlying27 Try.underlying5 (by kernel_rfl) (by kernel_rfl) (hval 2 27 v2 rfl rfl) h2
    match xs2, l2, w2 with
    | [x2_0, x2_1], _, w2 =>
    exact walk a0 w0 a1 w1 x2_0 (w2 _ (by simp)) x2_1 (w2 _ (by simp)) W

theorem over : Rows.slewGetsRow.holds Try.pinned (OpenSpec.ofChange Rows.slewGetsSpec) :=
  OpenClaim.holds_of_wide 4 Try.f4 rfl rfl rfl rfl rfl rfl rfl ⟨rfl, rfl, rfl, rfl, rfl⟩ rfl rfl rfl rfl rfl (by kernel_rfl) Try.func4 (by kernel_rfl)
    (of_decide_eq_true (by kernel_rfl)) (by unfold Func.isWrapper; first | (rw [if_pos (by decide +kernel)]; kernel_rfl) | (rw [if_neg (by decide +kernel)]; exact ⟨rfl, rfl⟩))
    (fun os started H enc _ => lifted os started H enc)

theorem proved : Rows.SlewGetsSaid := over
#print axioms proved
end Go.Proofs.Ytbglkokdnkcknaa.slewGets
