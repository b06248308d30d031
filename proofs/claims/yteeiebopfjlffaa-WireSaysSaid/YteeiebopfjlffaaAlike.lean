/- Contracts of the law's own: long, Alike. -/
import Derived.Test.YteeiebopfjlffaaGet
import Derived.BigQuiet
namespace Go.Proofs.Yteeiebopfjlffaa
open Go.RowKit Ieee
set_option linter.unusedVariables false
set_option linter.unusedSimpArgs false
set_option maxRecDepth 100000
attribute [local go_sem] cell_set_ite run_store_real Near.cell Near.frozen

def lgB (f : Nat → Sp) (n : Nat) : Bool := decide (400 < n) || (spL f n).any fun x => decide (100 < x.torn.size)
theorem lg_yes (f : Nat → Sp) (n k : Nat) (hk : k < n) (h : 100 < (f k).torn.size) : lgB f n = true := by
  unfold lgB
  rw [Bool.or_eq_true]
  right
  rw [List.any_eq_true]
  exact ⟨f k, by simp [spL]; exact ⟨k, hk, rfl⟩, decide_eq_true h⟩
theorem lg_no (f : Nat → Sp) (n : Nat) (h4 : n ≤ 400) (h : ∀ i, i < n → ¬ 100 < (f i).torn.size) : lgB f n = false := by
  unfold lgB
  rw [decide_eq_false (by omega), Bool.false_or, List.any_eq_false]
  intro x hx
  simp [spL] at hx
  obtain ⟨i, hi, rfl⟩ := hx
  simpa using h i hi
theorem wi_long (A : Option Addr) (n c : Nat) (f : Nat → Sp) (w : World) (h : Stp w A n f) (hc : n ≤ c) :
    Calls Try.prog 5 #[.slice A n c] w fun e w' => e = .returned (.bool (lgB f n)) ∧ w = w' := by
  by_cases h4 : n ≤ 400
  · have HI := Lib.hid h
    have HY := Lib.hid (lg_yes f n)
    have HN := Lib.hid (lg_no f n h4)
    clear h
    generalize lgB f n = L at *
    go_enter Try.func5, Try.ntmps5
    go_wp2_with (fail)
    go_loop [3, 9] (fun _ i => ∃ k : Nat, k ≤ n ∧ i = .int .i64 k ∧ ∀ j, j < k → ¬ 100 < (f j).torn.size) (fun _ i => n - (intOf i).toNat)
    case atStart => exact ⟨0, Nat.zero_le _, rfl, fun j h => absurd h (by omega)⟩
    case round =>
      obtain ⟨k, hk, rfl, hall⟩ := hrel
      have HA := Lib.hid hall
      clear hall
      by_cases hlt : k < n
      · obtain ⟨b, off, rfl, hb, hcell⟩ := HI.out.at_ (by omega)
        have hwf := HI.out.1 k hlt
        obtain ⟨q0, q1, q2, q3, q4, q5, q6, q7, q8⟩ := hcell k hlt
        have hz := hwf.2.2.2
        have HYk := Lib.hid (HY.out k hlt)
        have HAk := Lib.hid fun (h : ¬ 100 < (f k).torn.size) j (hj : j < k + 1) => if e : j = k then e ▸ h else HA.out j (by omega)
        generalize (f k).torn = tn at *
        clear q0 q1 q2 q3 q4 q5 q6 q7 hcell hwf
        by_cases h100 : 100 < tn.size
        · have hL := HYk.out h100
          subst hL
          go_wp2_with (fail)
          all_goals go_ret
          all_goals exact ⟨rfl, rfl⟩
        · have HB := Lib.hid (HAk.out h100)
          go_wp2_with (fail)
          refine ⟨⟨k + 1, by omega, by go_num, HB.out⟩, by simp [intOf]; omega⟩
      · obtain rfl : k = n := by omega
        have hL := HN.out HA.out
        subst hL
        go_wp2_with (fail)
        all_goals go_ret
        all_goals exact ⟨rfl, rfl⟩
  · have hL : lgB f n = true := by unfold lgB; rw [decide_eq_true (by omega)]; rfl
    rw [hL]
    clear h hL
    go_enter Try.func5, Try.ntmps5
    go_wp2_with (fail)
    all_goals go_ret
    all_goals exact ⟨rfl, rfl⟩
theorem two_new (w : World) (cs ds : Array Value) (t u : TypeId) : Box ((w.alloc (.cells cs t)).alloc (.cells ds u)).drew w.heap.size cs ∧ Box ((w.alloc (.cells cs t)).alloc (.cells ds u)).drew (w.heap.size + 1) ds ∧ Below w.heap.size w ((w.alloc (.cells cs t)).alloc (.cells ds u)).drew :=
  ⟨((box_new w cs t).alloc _).drew, (box_at (w.alloc (.cells cs t)) ds u (by simp)).drew, Below.drew (below_alloc_on (below_alloc_on (Below.refl _ _) _) _)⟩
theorem od_same {a b : Nat} (h : nm a = nm b) : odV a b = 0 := by
  have hk : key a = key b := by
    unfold nm at h
    cases ha : nanB a <;> cases hb : nanB b
    · rw [ha, hb] at h; simp at h; rw [h]
    · rw [ha, hb] at h; simp at h; rw [h, nan_nanw] at ha; exact absurd ha (by decide)
    · rw [ha, hb] at h; simp at h; rw [← h, nan_nanw] at hb; exact absurd hb (by decide)
    · unfold key; rw [ha, hb]; rfl
  unfold odV
  rw [hk, if_neg (Int.lt_irrefl _), if_neg (Int.lt_irrefl _)]
theorem nrm_same {x y : Sp} (h : nrm x = nrm y) : x.cut = y.cut ∧ (x.cut = true → x.torn = y.torn) ∧
    (x.cut = false → x.raw.door = y.raw.door ∧ x.raw.key = y.raw.key ∧ x.raw.wr = y.raw.wr ∧ odV x.raw.adc y.raw.adc = 0 ∧ odV x.raw.tilt y.raw.tilt = 0 ∧ odV x.raw.bat y.raw.bat = 0 ∧ odV x.raw.enc y.raw.enc = 0) := by
  obtain ⟨⟨a, t, b, e, d, k, r⟩, c, o⟩ := x
  obtain ⟨⟨a', t', b', e', d', k', r'⟩, c', o'⟩ := y
  unfold nrm at h
  cases c <;> cases c' <;> simp at h
  · obtain ⟨h1, h2, h3, h4, h5, h6, h7⟩ := h
    exact ⟨rfl, fun h => absurd h (by simp), fun _ => ⟨h5, h6, h7, od_same h1, od_same h2, od_same h3, od_same h4⟩⟩
  · exact ⟨rfl, fun _ => h, fun h => absurd h (by simp)⟩
set_option maxHeartbeats 4000000 in
theorem wi_alike (A B : Option Addr) (n c d : Nat) (f g : Nat → Sp) (w : World) (h : Stp w A n f) (k : Stp w B n g) (hc : n ≤ c) (hd : n ≤ d) (hn : n ≤ 1000) (he : ∀ i, i < n → nrm (f i) = nrm (g i)) :
    Calls Try.prog 11 #[.slice A n c, .slice B n d] w fun e w' => e = .returned (.bool true) ∧ Below w.heap.size w w' := by
  have D0 : Below w.heap.size w w := Below.refl _ _
  have HI := Lib.hid h
  have HK := Lib.hid k
  have HE := Lib.hid fun i hi => nrm_same (he i hi)
  clear h k he
  go_enter Try.func11, Try.ntmps11
  go_wp2_with (fail)
  go_loopw [5, 6, 7, 15] (fun _ _ _ i wr => ∃ k : Nat, k ≤ n ∧ i = .int .i64 k ∧ Below w.heap.size w wr) (fun _ _ _ i _ => n - (intOf i).toNat)
  case atStart => exact ⟨0, Nat.zero_le _, rfl, D0⟩
  case round =>
    obtain ⟨k, hk, rfl, A1⟩ := hrel
    by_cases hlt : k < n
    · obtain ⟨b, off, rfl, hb, hcell⟩ := HI.out.at_ (by omega)
      obtain ⟨b', off', rfl, hb', hcell'⟩ := HK.out.at_ (by omega)
      have w1 := HI.out.1 k hlt
      have w2 := HK.out.1 k hlt
      obtain ⟨q0, q1, q2, q3, q4, q5, q6, q7, q8⟩ := hcell k hlt
      obtain ⟨r0, r1, r2, r3, r4, r5, r6, r7, r8⟩ := hcell' k hlt
      have c0 := (A1.cell (p := ⟨b, off + k * 9, none⟩) hb).trans q0
      have c1 := (A1.cell (p := ⟨b, off + k * 9 + 1, none⟩) hb).trans q1
      have c2 := (A1.cell (p := ⟨b, off + k * 9 + 2, none⟩) hb).trans q2
      have c3 := (A1.cell (p := ⟨b, off + k * 9 + 3, none⟩) hb).trans q3
      have c4 := (A1.cell (p := ⟨b, off + k * 9 + 4, none⟩) hb).trans q4
      have c5 := (A1.cell (p := ⟨b, off + k * 9 + 5, none⟩) hb).trans q5
      have c6 := (A1.cell (p := ⟨b, off + k * 9 + 6, none⟩) hb).trans q6
      have c7 := (A1.cell (p := ⟨b, off + k * 9 + 7, none⟩) hb).trans q7
      have c8 := (A1.cell (p := ⟨b, off + k * 9 + 8, none⟩) hb).trans q8
      have d0 := (A1.cell (p := ⟨b', off' + k * 9, none⟩) hb').trans r0
      have d1 := (A1.cell (p := ⟨b', off' + k * 9 + 1, none⟩) hb').trans r1
      have d2 := (A1.cell (p := ⟨b', off' + k * 9 + 2, none⟩) hb').trans r2
      have d3 := (A1.cell (p := ⟨b', off' + k * 9 + 3, none⟩) hb').trans r3
      have d4 := (A1.cell (p := ⟨b', off' + k * 9 + 4, none⟩) hb').trans r4
      have d5 := (A1.cell (p := ⟨b', off' + k * 9 + 5, none⟩) hb').trans r5
      have d6 := (A1.cell (p := ⟨b', off' + k * 9 + 6, none⟩) hb').trans r6
      have d7 := (A1.cell (p := ⟨b', off' + k * 9 + 7, none⟩) hb').trans r7
      have d8 := (A1.cell (p := ⟨b', off' + k * 9 + 8, none⟩) hb').trans r8
      have HQ := Lib.hid (HE.out k hlt)
      have hbw := Nat.lt_of_lt_of_le hb A1.size
      have hbw' := Nat.lt_of_lt_of_le hb' A1.size
      clear hcell hcell' q0 q1 q2 q3 q4 q5 q6 q7 q8 r0 r1 r2 r3 r4 r5 r6 r7 r8
      generalize f k = x at *
      generalize g k = y at *
      obtain ⟨⟨xa, xt, xb, xe, xd, xk, xw⟩, xc, xo⟩ := x
      obtain ⟨⟨ya, yt, yb, ye, yd, yk, yw⟩, yc, yo⟩ := y
      simp only at c0 c1 c2 c3 c4 c5 c6 c7 c8 d0 d1 d2 d3 d4 d5 d6 d7 d8 HQ w1 w2
      obtain ⟨eC, eT, eF⟩ := HQ.out
      subst eC
      have o0 : bits .or .i64 0 0 = 0 := by decide +kernel
      cases xc with
      | true =>
        obtain rfl := eT rfl
        clear eT eF HQ
        go_wp2_with (fail)
        go_region
        · have T := two_new wr #[.float .f64 xa, .float .f64 xt, .float .f64 xb, .float .f64 xe, .bool xd, .int .i64 xk, .bool xw] #[.float .f64 ya, .float .f64 yt, .float .f64 yb, .float .f64 ye, .bool yd, .int .i64 yk, .bool yw] 33 33
          generalize ((wr.alloc (.cells #[.float .f64 xa, .float .f64 xt, .float .f64 xb, .float .f64 xe, .bool xd, .int .i64 xk, .bool xw] 33)).alloc (.cells #[.float .f64 ya, .float .f64 yt, .float .f64 yb, .float .f64 ye, .bool yd, .int .i64 yk, .bool yw] 33)).drew = W2 at T ⊢
          obtain ⟨H1, H2, hb2⟩ := T
          have lt1 := H1.1
          have lt2 := H2.1
          have ce7 := (hb2.cell (p := ⟨b, off + k * 9 + 7, none⟩) hbw).trans c7
          have ce8 := (hb2.cell (p := ⟨b, off + k * 9 + 8, none⟩) hbw).trans c8
          have de7 := (hb2.cell (p := ⟨b', off' + k * 9 + 7, none⟩) hbw').trans d7
          have de8 := (hb2.cell (p := ⟨b', off' + k * 9 + 8, none⟩) hbw').trans d8
          have A2 := below_call A1 hb2
          clear H1 H2 hb2 c0 c1 c2 c3 c4 c5 c6 c7 c8 d0 d1 d2 d3 d4 d5 d6 d7 d8 A1
          go_wp2_with (fail)
          go_quiet (fail)
          go_wp2_with (fail)
          go_roundw
          case rel => exact ⟨k + 1, by omega, by go_num, below_drewN A2 _⟩
          case measure => simp [intOf]; omega
        · have T := two_new wr #[.float .f64 ya, .float .f64 yt, .float .f64 yb, .float .f64 ye, .bool yd, .int .i64 yk, .bool yw] #[.float .f64 xa, .float .f64 xt, .float .f64 xb, .float .f64 xe, .bool xd, .int .i64 xk, .bool xw] 33 33
          generalize ((wr.alloc (.cells #[.float .f64 ya, .float .f64 yt, .float .f64 yb, .float .f64 ye, .bool yd, .int .i64 yk, .bool yw] 33)).alloc (.cells #[.float .f64 xa, .float .f64 xt, .float .f64 xb, .float .f64 xe, .bool xd, .int .i64 xk, .bool xw] 33)).drew = W2 at T ⊢
          obtain ⟨H1, H2, hb2⟩ := T
          have lt1 := H1.1
          have lt2 := H2.1
          have ce7 := (hb2.cell (p := ⟨b, off + k * 9 + 7, none⟩) hbw).trans c7
          have ce8 := (hb2.cell (p := ⟨b, off + k * 9 + 8, none⟩) hbw).trans c8
          have de7 := (hb2.cell (p := ⟨b', off' + k * 9 + 7, none⟩) hbw').trans d7
          have de8 := (hb2.cell (p := ⟨b', off' + k * 9 + 8, none⟩) hbw').trans d8
          have A2 := below_call A1 hb2
          clear H1 H2 hb2 c0 c1 c2 c3 c4 c5 c6 c7 c8 d0 d1 d2 d3 d4 d5 d6 d7 d8 A1
          go_wp2_with (fail)
          go_quiet (fail)
          go_wp2_with (fail)
          go_roundw
          case rel => exact ⟨k + 1, by omega, by go_num, below_drewN A2 _⟩
          case measure => simp [intOf]; omega
      | false =>
        obtain ⟨rfl, rfl, rfl, z1, z2, z3, z4⟩ := eF rfl
        clear eT eF HQ
        have K1 := Lib.hid fun w => q_order xa ya w1.1.1 w2.1.1 w
        have K2 := Lib.hid fun w => q_order xt yt w1.1.2.1 w2.1.2.1 w
        have K3 := Lib.hid fun w => q_order xb yb w1.1.2.2.1 w2.1.2.2.1 w
        have K4 := Lib.hid fun w => q_order xe ye w1.1.2.2.2 w2.1.2.2.2 w
        rw [z1] at K1
        rw [z2] at K2
        rw [z3] at K3
        rw [z4] at K4
        clear z1 z2 z3 z4
        go_wp2_with (fail)
        go_region
        · have T := two_new wr #[.float .f64 xa, .float .f64 xt, .float .f64 xb, .float .f64 xe, .bool xd, .int .i64 xk, .bool xw] #[.float .f64 ya, .float .f64 yt, .float .f64 yb, .float .f64 ye, .bool xd, .int .i64 xk, .bool xw] 33 33
          generalize ((wr.alloc (.cells #[.float .f64 xa, .float .f64 xt, .float .f64 xb, .float .f64 xe, .bool xd, .int .i64 xk, .bool xw] 33)).alloc (.cells #[.float .f64 ya, .float .f64 yt, .float .f64 yb, .float .f64 ye, .bool xd, .int .i64 xk, .bool xw] 33)).drew = W2 at T ⊢
          obtain ⟨H1, H2, hb2⟩ := T
          have lt1 := H1.1
          have lt2 := H2.1
          have x0 := H1.2.1 0
          have y0 := H2.2.1 0
          have x1 := H1.2.1 1
          have y1 := H2.2.1 1
          have x2 := H1.2.1 2
          have y2 := H2.2.1 2
          have x3 := H1.2.1 3
          have y3 := H2.2.1 3
          have x4 := H1.2.1 4
          have y4 := H2.2.1 4
          have x5 := H1.2.1 5
          have y5 := H2.2.1 5
          have x6 := H1.2.1 6
          have y6 := H2.2.1 6
          simp only [List.getElem?_toArray, List.getElem?_cons_succ, List.getElem?_cons_zero] at x0 y0 x1 y1 x2 y2 x3 y3 x4 y4 x5 y5 x6 y6
          have ce7 := (hb2.cell (p := ⟨b, off + k * 9 + 7, none⟩) hbw).trans c7
          have ce8 := (hb2.cell (p := ⟨b, off + k * 9 + 8, none⟩) hbw).trans c8
          have de7 := (hb2.cell (p := ⟨b', off' + k * 9 + 7, none⟩) hbw').trans d7
          have de8 := (hb2.cell (p := ⟨b', off' + k * 9 + 8, none⟩) hbw').trans d8
          have A2 := below_call A1 hb2
          clear H1 H2 hb2 c0 c1 c2 c3 c4 c5 c6 c7 c8 d0 d1 d2 d3 d4 d5 d6 d7 d8 A1
          go_wp2_with (fail)
          go_quiet (fail)
          go_wp2_with (fail)
          replace x0 := (show (W2.drewN nq).cell? ⟨wr.heap.size, 0, none⟩ = _ from x0)
          replace y0 := (show (W2.drewN nq).cell? ⟨wr.heap.size + 1, 0, none⟩ = _ from y0)
          replace x1 := (show (W2.drewN nq).cell? ⟨wr.heap.size, 1, none⟩ = _ from x1)
          replace y1 := (show (W2.drewN nq).cell? ⟨wr.heap.size + 1, 1, none⟩ = _ from y1)
          replace x2 := (show (W2.drewN nq).cell? ⟨wr.heap.size, 2, none⟩ = _ from x2)
          replace y2 := (show (W2.drewN nq).cell? ⟨wr.heap.size + 1, 2, none⟩ = _ from y2)
          replace x3 := (show (W2.drewN nq).cell? ⟨wr.heap.size, 3, none⟩ = _ from x3)
          replace y3 := (show (W2.drewN nq).cell? ⟨wr.heap.size + 1, 3, none⟩ = _ from y3)
          replace x4 := (show (W2.drewN nq).cell? ⟨wr.heap.size, 4, none⟩ = _ from x4)
          replace y4 := (show (W2.drewN nq).cell? ⟨wr.heap.size + 1, 4, none⟩ = _ from y4)
          replace x5 := (show (W2.drewN nq).cell? ⟨wr.heap.size, 5, none⟩ = _ from x5)
          replace y5 := (show (W2.drewN nq).cell? ⟨wr.heap.size + 1, 5, none⟩ = _ from y5)
          replace x6 := (show (W2.drewN nq).cell? ⟨wr.heap.size, 6, none⟩ = _ from x6)
          replace y6 := (show (W2.drewN nq).cell? ⟨wr.heap.size + 1, 6, none⟩ = _ from y6)
          replace lt1 := (show wr.heap.size < (W2.drewN nq).heap.size from lt1)
          replace lt2 := (show wr.heap.size + 1 < (W2.drewN nq).heap.size from lt2)
          replace A2 := below_drewN A2 nq
          clear ce7 ce8 de7 de8
          generalize W2.drewN nq = W3 at *
          refine wp_region_calm (by kernel_rfl) (by kernel_rfl) ?_
          repeat (go_big_quiet_step ((first | (go_at_call 22; with_reducible exact calm_same _ (K1.out _)) | (go_at_call 22; with_reducible exact calm_same _ (K2.out _)) | (go_at_call 22; with_reducible exact calm_same _ (K3.out _)) | (go_at_call 22; with_reducible exact calm_same _ (K4.out _)))))
          refine wpQuiet_nil ?_
          intro _ hw'
          obtain ⟨u, rfl⟩ := hw'
          go_wp2_with (fail)
          go_roundw
          case rel => exact ⟨k + 1, by omega, by go_num, below_call A2 u.below⟩
          case measure => simp [intOf]; omega
        · have T := two_new wr #[.float .f64 ya, .float .f64 yt, .float .f64 yb, .float .f64 ye, .bool xd, .int .i64 xk, .bool xw] #[.float .f64 xa, .float .f64 xt, .float .f64 xb, .float .f64 xe, .bool xd, .int .i64 xk, .bool xw] 33 33
          generalize ((wr.alloc (.cells #[.float .f64 ya, .float .f64 yt, .float .f64 yb, .float .f64 ye, .bool xd, .int .i64 xk, .bool xw] 33)).alloc (.cells #[.float .f64 xa, .float .f64 xt, .float .f64 xb, .float .f64 xe, .bool xd, .int .i64 xk, .bool xw] 33)).drew = W2 at T ⊢
          obtain ⟨H1, H2, hb2⟩ := T
          have lt1 := H1.1
          have lt2 := H2.1
          have x0 := H1.2.1 0
          have y0 := H2.2.1 0
          have x1 := H1.2.1 1
          have y1 := H2.2.1 1
          have x2 := H1.2.1 2
          have y2 := H2.2.1 2
          have x3 := H1.2.1 3
          have y3 := H2.2.1 3
          have x4 := H1.2.1 4
          have y4 := H2.2.1 4
          have x5 := H1.2.1 5
          have y5 := H2.2.1 5
          have x6 := H1.2.1 6
          have y6 := H2.2.1 6
          simp only [List.getElem?_toArray, List.getElem?_cons_succ, List.getElem?_cons_zero] at x0 y0 x1 y1 x2 y2 x3 y3 x4 y4 x5 y5 x6 y6
          have ce7 := (hb2.cell (p := ⟨b, off + k * 9 + 7, none⟩) hbw).trans c7
          have ce8 := (hb2.cell (p := ⟨b, off + k * 9 + 8, none⟩) hbw).trans c8
          have de7 := (hb2.cell (p := ⟨b', off' + k * 9 + 7, none⟩) hbw').trans d7
          have de8 := (hb2.cell (p := ⟨b', off' + k * 9 + 8, none⟩) hbw').trans d8
          have A2 := below_call A1 hb2
          clear H1 H2 hb2 c0 c1 c2 c3 c4 c5 c6 c7 c8 d0 d1 d2 d3 d4 d5 d6 d7 d8 A1
          go_wp2_with (fail)
          go_quiet (fail)
          go_wp2_with (fail)
          replace x0 := (show (W2.drewN nq).cell? ⟨wr.heap.size, 0, none⟩ = _ from x0)
          replace y0 := (show (W2.drewN nq).cell? ⟨wr.heap.size + 1, 0, none⟩ = _ from y0)
          replace x1 := (show (W2.drewN nq).cell? ⟨wr.heap.size, 1, none⟩ = _ from x1)
          replace y1 := (show (W2.drewN nq).cell? ⟨wr.heap.size + 1, 1, none⟩ = _ from y1)
          replace x2 := (show (W2.drewN nq).cell? ⟨wr.heap.size, 2, none⟩ = _ from x2)
          replace y2 := (show (W2.drewN nq).cell? ⟨wr.heap.size + 1, 2, none⟩ = _ from y2)
          replace x3 := (show (W2.drewN nq).cell? ⟨wr.heap.size, 3, none⟩ = _ from x3)
          replace y3 := (show (W2.drewN nq).cell? ⟨wr.heap.size + 1, 3, none⟩ = _ from y3)
          replace x4 := (show (W2.drewN nq).cell? ⟨wr.heap.size, 4, none⟩ = _ from x4)
          replace y4 := (show (W2.drewN nq).cell? ⟨wr.heap.size + 1, 4, none⟩ = _ from y4)
          replace x5 := (show (W2.drewN nq).cell? ⟨wr.heap.size, 5, none⟩ = _ from x5)
          replace y5 := (show (W2.drewN nq).cell? ⟨wr.heap.size + 1, 5, none⟩ = _ from y5)
          replace x6 := (show (W2.drewN nq).cell? ⟨wr.heap.size, 6, none⟩ = _ from x6)
          replace y6 := (show (W2.drewN nq).cell? ⟨wr.heap.size + 1, 6, none⟩ = _ from y6)
          replace lt1 := (show wr.heap.size < (W2.drewN nq).heap.size from lt1)
          replace lt2 := (show wr.heap.size + 1 < (W2.drewN nq).heap.size from lt2)
          replace A2 := below_drewN A2 nq
          clear ce7 ce8 de7 de8
          generalize W2.drewN nq = W3 at *
          refine wp_region_calm (by kernel_rfl) (by kernel_rfl) ?_
          repeat (go_big_quiet_step ((first | (go_at_call 22; with_reducible exact calm_same _ (K1.out _)) | (go_at_call 22; with_reducible exact calm_same _ (K2.out _)) | (go_at_call 22; with_reducible exact calm_same _ (K3.out _)) | (go_at_call 22; with_reducible exact calm_same _ (K4.out _)))))
          refine wpQuiet_nil ?_
          intro _ hw'
          obtain ⟨u, rfl⟩ := hw'
          go_wp2_with (fail)
          go_roundw
          case rel => exact ⟨k + 1, by omega, by go_num, below_call A2 u.below⟩
          case measure => simp [intOf]; omega
    · obtain rfl : k = n := by omega
      go_wp2_with (fail)
      all_goals go_ret
      all_goals exact ⟨rfl, A1⟩
end Go.Proofs.Yteeiebopfjlffaa
