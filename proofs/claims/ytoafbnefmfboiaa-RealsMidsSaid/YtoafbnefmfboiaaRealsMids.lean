/- RealsMids holds of every three float64: the second of three hangs on no order of theirs. No condition. -/
import Derived.Test.YtoafbnefmfboiaaLaw3
import Derived.Test.YtoafbnefmfboiaaLift
namespace Go.Proofs.Ytoafbnefmfboiaa.realsMids
open Go.ChangeShapes Go.WideShapes Go.ChangeAt Go.RowKit Ieee
set_option linter.unusedVariables false
attribute [local go_sem] o_eql o_neq o_lss o_gtr

theorem fl_lt {b : Nat} (h : (Lit.float .f64 b).wf = true) : b < 18446744073709551616 := by
  simpa [Lit.wf] using h
def kmid (x y z : Int) : Int := if y < x then (if z < y then y else if x < z then x else z) else (if z < x then x else if y < z then y else z)
theorem key_mid (a b c : Nat) : key (midV a b c) = kmid (key a) (key b) (key c) := by
  unfold midV kmid
  repeat' split
  all_goals rfl
theorem mid_lt {a b c : Nat} (ha : a < 18446744073709551616) (hb : b < 18446744073709551616) (hc : c < 18446744073709551616) : midV a b c < 18446744073709551616 := by
  unfold midV
  repeat' split
  all_goals assumption
theorem od_same {a b : Nat} (h : key a = key b) : odV a b = 0 := by unfold odV; rw [if_neg (by omega), if_neg (by omega)]
theorem kmids (x y z : Int) : kmid x z y = kmid x y z ∧ kmid y x z = kmid x y z ∧ kmid y z x = kmid x y z ∧ kmid z x y = kmid x y z ∧ kmid z y x = kmid x y z ∧ kmid x y x = x := by
  unfold kmid
  refine ⟨?_, ?_, ?_, ?_, ?_, ?_⟩
  all_goals (repeat' split)
  all_goals omega

/-! Counting. -/
noncomputable def cl (m : Nat) (l : List Nat) : Int := l.foldl (fun s x => if key x ≤ key m then s + 1 else s) 0
noncomputable def cg (m : Nat) (l : List Nat) : Int := l.foldl (fun s x => if key m ≤ key x then s + 1 else s) 0
noncomputable def ob (m : Nat) (l : List Nat) : Bool := l.any fun x => decide (key x = key m)
theorem cl_step (m : Nat) (xs : List Nat) (k : Nat) (hk : k < xs.length) : cl m (xs.take (k + 1)) = if key (xs.getD k 0) ≤ key m then cl m (xs.take k) + 1 else cl m (xs.take k) := by
  unfold cl
  rw [List.take_add_one, List.foldl_append]
  simp [List.getD, List.getElem?_eq_getElem hk]
theorem cg_step (m : Nat) (xs : List Nat) (k : Nat) (hk : k < xs.length) : cg m (xs.take (k + 1)) = if key m ≤ key (xs.getD k 0) then cg m (xs.take k) + 1 else cg m (xs.take k) := by
  unfold cg
  rw [List.take_add_one, List.foldl_append]
  simp [List.getD, List.getElem?_eq_getElem hk]
theorem ob_step (m : Nat) (xs : List Nat) (k : Nat) (hk : k < xs.length) : ob m (xs.take (k + 1)) = (ob m (xs.take k) || decide (key (xs.getD k 0) = key m)) := by
  unfold ob
  rw [List.take_add_one, List.any_append]
  simp [List.getD, List.getElem?_eq_getElem hk]
theorem cl_bd (m : Nat) (xs : List Nat) (k : Nat) : 0 ≤ cl m (xs.take k) ∧ cl m (xs.take k) ≤ k := by
  induction k with
  | zero => simp [cl]
  | succ k ih =>
    rcases Nat.lt_or_ge k xs.length with c | c
    · rw [cl_step m xs k c]; split <;> omega
    · rw [List.take_of_length_le (by omega)]
      rw [List.take_of_length_le (by omega)] at ih
      omega
theorem cg_bd (m : Nat) (xs : List Nat) (k : Nat) : 0 ≤ cg m (xs.take k) ∧ cg m (xs.take k) ≤ k := by
  induction k with
  | zero => simp [cg]
  | succ k ih =>
    rcases Nat.lt_or_ge k xs.length with c | c
    · rw [cg_step m xs k c]; split <;> omega
    · rw [List.take_of_length_le (by omega)]
      rw [List.take_of_length_le (by omega)] at ih
      omega
theorem counts (a b c m : Nat) (hm : key m = kmid (key a) (key b) (key c)) : ob m [a, b, c] = true ∧ 2 ≤ cl m [a, b, c] ∧ 2 ≤ cg m [a, b, c] := by
  unfold ob cl cg
  simp only [List.any_cons, List.any_nil, List.foldl_cons, List.foldl_nil, hm]
  unfold kmid
  refine ⟨?_, ?_, ?_⟩
  · simp only [Bool.or_eq_true, decide_eq_true_eq, Bool.or_false]
    repeat' split
    all_goals simp
  · repeat' split
    all_goals omega
  · repeat' split
    all_goals omega

theorem od_ge0 (a b : Nat) : (decide (0 ≤ odV a b)) = decide (key b ≤ key a) := by
  unfold odV; split <;> (try split) <;> simp <;> omega
theorem od_eq0 (a b : Nat) : (odV a b == 0) = decide (key a = key b) := by
  rw [Bool.eq_iff_iff]
  unfold odV; split <;> (try split) <;> simp <;> omega

theorem cells_at (w : World) (xs : List Nat) (k : Nat) (hk : k < xs.length) (t : TypeId) : (w.alloc (.cells (xs.map (Value.float .f64)).toArray t)).cell? ⟨w.heap.size, k, none⟩ = some (.float .f64 (xs.getD k 0)) := by
  rw [World.cell?_alloc_at _ _ _ _ rfl]
  simp [List.getD, List.getElem?_eq_getElem hk]

set_option maxRecDepth 100000 in
set_option maxHeartbeats 2000000 in
theorem walk (a : Nat) (wa : (Lit.float .f64 a).wf = true) (b : Nat) (wb : (Lit.float .f64 b).wf = true) (c : Nat) (wc : (Lit.float .f64 c).wf = true) (W : World) :
    Calls Try.prog 6 #[.float .f64 a, .float .f64 b, .float .f64 c] W fun e W' => e = .returned (.bool true) ∧ Below W.heap.size W W' := by
  have ha := fl_lt wa
  have hb' := fl_lt wb
  have hc := fl_lt wc
  have hb := At.refl W
  obtain ⟨p1, p2, p3, p4, p5, p6⟩ := kmids (key a) (key b) (key c)
  obtain ⟨m, hm⟩ : ∃ m, midV a b c = m := ⟨_, rfl⟩
  obtain ⟨m1, hm1⟩ : ∃ m, midV a c b = m := ⟨_, rfl⟩
  obtain ⟨m2, hm2⟩ : ∃ m, midV b a c = m := ⟨_, rfl⟩
  obtain ⟨m3, hm3⟩ : ∃ m, midV b c a = m := ⟨_, rfl⟩
  obtain ⟨m4, hm4⟩ : ∃ m, midV c a b = m := ⟨_, rfl⟩
  obtain ⟨m5, hm5⟩ : ∃ m, midV c b a = m := ⟨_, rfl⟩
  obtain ⟨m6, hm6⟩ : ∃ m, midV a b a = m := ⟨_, rfl⟩
  have l0 : m < 18446744073709551616 := hm ▸ mid_lt ha hb' hc
  have l6 : m6 < 18446744073709551616 := hm6 ▸ mid_lt ha hb' ha
  have km : key m = kmid (key a) (key b) (key c) := by rw [← hm, key_mid]
  have o6 : odV m6 a = 0 := od_same (by rw [← hm6, key_mid, p6])
  obtain ⟨w1, hw1⟩ : ∃ w1, W.alloc (.cells #[.float .f64 m1, .float .f64 m2, .float .f64 m3, .float .f64 m4, .float .f64 m5] 22) = w1 := ⟨_, rfl⟩
  have hb1 : At W w1 := hw1 ▸ hb.below ((Below.refl _ _).alloc (Nat.le_refl _) _)
  have C1 : RowKit.Hid (∀ k : Nat, k < 5 → ∃ x, w1.cell? ⟨W.heap.size, k, none⟩ = some (.float .f64 x) ∧ odV m x = 0 ∧ x < 18446744073709551616) := Lib.hid (by
    intro k hk
    refine ⟨_, by rw [← hw1]; exact cells_at W [m1, m2, m3, m4, m5] k (by simpa using hk) _, ?_, ?_⟩
    · match k, hk with
      | 0, _ => exact od_same (by rw [km, ← p1, ← key_mid, hm1]; rfl)
      | 1, _ => exact od_same (by rw [km, ← p2, ← key_mid, hm2]; rfl)
      | 2, _ => exact od_same (by rw [km, ← p3, ← key_mid, hm3]; rfl)
      | 3, _ => exact od_same (by rw [km, ← p4, ← key_mid, hm4]; rfl)
      | 4, _ => exact od_same (by rw [km, ← p5, ← key_mid, hm5]; rfl)
    · match k, hk with
      | 0, _ => exact hm1 ▸ mid_lt ha hc hb'
      | 1, _ => exact hm2 ▸ mid_lt hb' ha hc
      | 2, _ => exact hm3 ▸ mid_lt hb' hc ha
      | 3, _ => exact hm4 ▸ mid_lt hc ha hb'
      | 4, _ => exact hm5 ▸ mid_lt hc hb' ha)
  obtain ⟨w2, hw2⟩ : ∃ w2, w1.alloc (.cells #[.float .f64 a, .float .f64 b, .float .f64 c] 22) = w2 := ⟨_, rfl⟩
  have hb2 : At W w2 := hw2 ▸ hb1.below ((Below.refl _ _).alloc (Nat.le_refl _) _)
  have C2 : RowKit.Hid (∀ k : Nat, k < 3 → w2.cell? ⟨w1.heap.size, k, none⟩ = some (.float .f64 ([a, b, c].getD k 0)) ∧ [a, b, c].getD k 0 < 18446744073709551616) := Lib.hid (by
    intro k hk
    refine ⟨by rw [← hw2]; exact cells_at w1 [a, b, c] k (by simpa using hk) _, ?_⟩
    match k, hk with
    | 0, _ => exact ha
    | 1, _ => exact hb'
    | 2, _ => exact hc)
  obtain ⟨z1, z2, z3⟩ := counts a b c m km
  have Z := Lib.hid z1
  have Z2 := Lib.hid z2
  have Z3 := Lib.hid z3
  clear p1 p2 p3 p4 p5 p6 km z1 z2 z3 hb hb1
  have hb := hb2
  go_enter Try.func6, Try.ntmps6
  go_wp2_with (first
    | (go_at_call 12; refine (r_mid _ _ _ (by first | assumption | decide) (by first | assumption | decide) (by first | assumption | decide) _).mono ?_; rintro e w' ⟨rfl, rfl⟩))
  go_loop [42] (fun i => ∃ k : Nat, k ≤ 5 ∧ i = .int .i64 k) (fun i => 5 - (intOf i).toNat)
  case atStart => exact ⟨0, Nat.zero_le _, rfl⟩
  case round =>
    obtain ⟨k, hk, rfl⟩ := hrel
    by_cases hlt : k < 5
    · obtain ⟨x, hcell, hox, hxl⟩ := C1.out k hlt
      go_wp2_with (first
    | (go_at_call 17; refine (r_order _ _ (by first | assumption | decide) (by first | assumption | decide) _).mono ?_; rintro e w' ⟨rfl, rfl⟩))
      all_goals
        go_round
        case rel => exact ⟨k + 1, by omega, by go_num⟩
        case measure => simp [intOf]; omega
    · obtain rfl : k = 5 := by omega
      go_wp2
      go_loop [10, 11, 12, 56] (fun l g o i => ∃ k : Nat, k ≤ 3 ∧ l = .int .i64 (cl m ([a, b, c].take k)) ∧ g = .int .i64 (cg m ([a, b, c].take k)) ∧ o = .bool (ob m ([a, b, c].take k)) ∧ i = .int .i64 k) (fun _ _ _ i => 3 - (intOf i).toNat)
      case atStart => exact ⟨0, Nat.zero_le _, rfl, rfl, rfl, rfl⟩
      case round =>
        obtain ⟨k, hk, rfl, rfl, rfl, rfl⟩ := hrel
        by_cases hlt : k < 3
        · obtain ⟨hcell, hxl⟩ := C2.out k hlt
          have s1 := Lib.hid (cl_step m [a, b, c] k (by simpa using hlt))
          have s2 := Lib.hid (cg_step m [a, b, c] k (by simpa using hlt))
          have s3 := Lib.hid (ob_step m [a, b, c] k (by simpa using hlt))
          have b1 := cl_bd m [a, b, c] k
          have b2 := cg_bd m [a, b, c] k
          have d1 := od_le0 ([a, b, c].getD k 0) m
          have d2 := od_ge0 ([a, b, c].getD k 0) m
          have d3 := od_eq0 ([a, b, c].getD k 0) m
          generalize [a, b, c].getD k 0 = x at *
          generalize cl m (List.take k [a, b, c]) = L at *
          generalize cg m (List.take k [a, b, c]) = G at *
          generalize ob m (List.take k [a, b, c]) = O at *
          rcases Int.lt_trichotomy (key x) (key m) with q | q | q
          · have e1 : decide (key x ≤ key m) = true := decide_eq_true (by omega)
            have e2 : decide (key m ≤ key x) = false := decide_eq_false (by omega)
            have e3 : decide (key x = key m) = false := decide_eq_false (by omega)
            rw [e1] at d1
            rw [e2] at d2
            rw [e3] at d3
            have E := Lib.hid e3
            have Q := Lib.hid q
            clear e1 e2 e3 q
            cases O
            all_goals go_wp2_with (first
    | (go_at_call 17; refine (r_order _ _ (by first | assumption | decide) (by first | assumption | decide) _).mono ?_; rintro e w' ⟨rfl, rfl⟩))
            all_goals
              go_round
              case rel => exact ⟨k + 1, by omega, by rw [s1.out, if_pos (by have := Q.out; omega)], by rw [s2.out, if_neg (by have := Q.out; omega)], by rw [s3.out, E.out]; rfl, by go_num⟩
              case measure => simp [intOf]; omega
          · have e1 : decide (key x ≤ key m) = true := decide_eq_true (by omega)
            have e2 : decide (key m ≤ key x) = true := decide_eq_true (by omega)
            have e3 : decide (key x = key m) = true := decide_eq_true (by omega)
            rw [e1] at d1
            rw [e2] at d2
            rw [e3] at d3
            have E := Lib.hid e3
            have Q := Lib.hid q
            clear e1 e2 e3 q
            cases O
            all_goals go_wp2_with (first
    | (go_at_call 17; refine (r_order _ _ (by first | assumption | decide) (by first | assumption | decide) _).mono ?_; rintro e w' ⟨rfl, rfl⟩))
            all_goals
              go_round
              case rel => exact ⟨k + 1, by omega, by rw [s1.out, if_pos (by have := Q.out; omega)], by rw [s2.out, if_pos (by have := Q.out; omega)], by rw [s3.out, E.out]; rfl, by go_num⟩
              case measure => simp [intOf]; omega
          · have e1 : decide (key x ≤ key m) = false := decide_eq_false (by omega)
            have e2 : decide (key m ≤ key x) = true := decide_eq_true (by omega)
            have e3 : decide (key x = key m) = false := decide_eq_false (by omega)
            rw [e1] at d1
            rw [e2] at d2
            rw [e3] at d3
            have E := Lib.hid e3
            have Q := Lib.hid q
            clear e1 e2 e3 q
            cases O
            all_goals go_wp2_with (first
    | (go_at_call 17; refine (r_order _ _ (by first | assumption | decide) (by first | assumption | decide) _).mono ?_; rintro e w' ⟨rfl, rfl⟩))
            all_goals
              go_round
              case rel => exact ⟨k + 1, by omega, by rw [s1.out, if_neg (by have := Q.out; omega)], by rw [s2.out, if_pos (by have := Q.out; omega)], by rw [s3.out, E.out]; rfl, by go_num⟩
              case measure => simp [intOf]; omega
        · obtain rfl : k = 3 := by omega
          have e3 : [a, b, c].take 3 = [a, b, c] := rfl
          rw [e3]
          have y1 := Z.out
          have y2 : decide (2 ≤ cl m [a, b, c]) = true := decide_eq_true Z2.out
          have y3 : decide (2 ≤ cg m [a, b, c]) = true := decide_eq_true Z3.out
          generalize cl m [a, b, c] = L at *
          generalize cg m [a, b, c] = G at *
          go_wp2_with (first
    | (go_at_call 17; refine (r_order _ _ (by first | assumption | decide) (by first | assumption | decide) _).mono ?_; rintro e w' ⟨rfl, rfl⟩)
    | (go_at_call 12; refine (r_mid _ _ _ (by first | assumption | decide) (by first | assumption | decide) (by first | assumption | decide) _).mono ?_; rintro e w' ⟨rfl, rfl⟩)
    | (go_at_call 18; refine (law3_awake _ _ (by assumption)).mono ?_; rintro e w' ⟨rfl, hb⟩))
          all_goals go_ret
          all_goals exact ⟨rfl, hb⟩

theorem lifted (os : Os) (started : os.Started) (H : Type) (enc : TypeId × Value → H) :
    ReturnsInHanded {} Try.checked os 6 .any (Rows.realsMidsSpec.pre6 enc Try.prog Try.f6 Rows.realsMidsRow.domain false) (Rows.realsMidsSpec.post enc Try.prog Try.f6 false true false false) := by
  refine law_lift started (by kernel_rfl) Try.func6 rfl rfl ?_ (by kernel_rfl)
    (ChangeSpec.witness6 (enc := enc) (C := Try.checked) false ⟨#[], #[.float .f64 0, .float .f64 0, .float .f64 0], []⟩ 8 (by kernel_rfl) (by kernel_rfl) (by kernel_rfl) (by kernel_rfl)) ?_
  · intro ds hl
    match ds, hl with
    | [_, _, _], _ => exact ⟨rfl, rfl, rfl⟩
  · intro W base args ds p hval hA hlt hwt
    rw [Try.params6] at hA hval hwt
    obtain ⟨v0, vs0, d0, ds0, p0, q0, hargs, rfl, rfl, h0, r0⟩ := trodAll_cons hA
    obtain ⟨v1, vs1, d1, ds1, p1, q1, rfl, rfl, rfl, h1, r1⟩ := trodAll_cons r0
    obtain ⟨v2, vs2, d2, ds2, p2, q2, rfl, rfl, rfl, h2, r2⟩ := trodAll_cons r1
    obtain ⟨rfl, rfl, rfl⟩ := trodAll_nil r2
    obtain rfl : args = #[v0, v1, v2] := by cases args; simp_all
    obtain ⟨a0, rfl, rfl, rfl, w0⟩ := open_float Try.underlying22 (hval 0 22 v0 rfl rfl) h0
    obtain ⟨a1, rfl, rfl, rfl, w1⟩ := open_float Try.underlying22 (hval 1 22 v1 rfl rfl) h1
    obtain ⟨a2, rfl, rfl, rfl, w2⟩ := open_float Try.underlying22 (hval 2 22 v2 rfl rfl) h2
    exact walk a0 w0 a1 w1 a2 w2 W

theorem over : Rows.realsMidsRow.holds Try.pinned (OpenSpec.ofChange Rows.realsMidsSpec) :=
  OpenClaim.holds_of_wide 6 Try.f6 rfl rfl rfl rfl rfl rfl rfl ⟨rfl, rfl, rfl, rfl, rfl⟩ rfl rfl rfl rfl rfl (by kernel_rfl) Try.func6 (by kernel_rfl)
    (of_decide_eq_true (by kernel_rfl)) (by unfold Func.isWrapper; first | (rw [if_pos (by decide +kernel)]; kernel_rfl) | (rw [if_neg (by decide +kernel)]; exact ⟨rfl, rfl⟩))
    (fun os started H enc _ => lifted os started H enc)

theorem proved : Rows.RealsMidsSaid := over
#print axioms proved
end Go.Proofs.Ytoafbnefmfboiaa.realsMids
