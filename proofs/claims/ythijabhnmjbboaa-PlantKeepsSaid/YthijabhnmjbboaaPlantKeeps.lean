/- PlantKeeps holds of every list of openings, every height and every set: what has flowed is what fell, and the part. No condition. -/
import Derived.Test.YthijabhnmjbboaaRef48
import Derived.Test.YthijabhnmjbboaaNums
import Derived.Test.YthijabhnmjbboaaArr
import Derived.Test.YthijabhnmjbboaaFan
import Derived.Test.YthijabhnmjbboaaDrop
import Derived.Deep.DeepCutAuto
import Derived.Deep.CutBlock
import Derived.Deep.LoopGhost
namespace Go.Proofs.Ythijabhnmjbboaa.plantKeeps
open Go.ChangeShapes Go.WideShapes Go.ChangeAt Go.RowKit
set_option linter.unusedVariables false
set_option linter.unusedSimpArgs false
attribute [local go_sem] cell_set_ite Near.cell Near.frozen

/-- A tick keeps the books. -/
theorem keeps {L P S F s o h left fl : Int} (hU : 6000000 ≤ unV s ∧ unV s ≤ 36000000) (p0 : 0 ≤ P) (p1 : P < unV s) (F0 : 0 ≤ F) (L0 : 0 ≤ L) (hl : F + L = left) (hle : left ≤ 256) (hf : F * unV s + P = fl) (s0 : S ≤ 3) :
    ∃ L2 P2 S2 F2, plL L P s o h = L2 ∧ plP L P s o h = P2 ∧ plS L P S s o h = S2 ∧ plF L P F s o h = F2 ∧ 0 ≤ P2 ∧ P2 < unV s ∧ 0 ≤ F2 ∧ 0 ≤ L2 ∧ F2 + L2 = left ∧ S2 ≤ 3 ∧ F2 * unV s + P2 = (if 0 < L then fl + fwV o h else fl) := by
  have ⟨f0, f1⟩ := fw_bd o h
  have hw : plW L s = decide (0 < L) := by unfold plW; by_cases h : 0 < L <;> simp [h]; omega
  unfold plS
  rcases pl_ways L P S F s o h with ⟨k, e1, e2, e3, e4⟩ | ⟨k, q, e1, e2, e3, e4⟩ | ⟨k, q, e1, e2, e3, e4⟩
  · rw [hw] at k
    have := of_decide_eq_false k
    rw [e1, e2, e3, e4, if_neg this]
    exact ⟨_, _, _, _, rfl, rfl, rfl, rfl, p0, p1, F0, L0, hl, by split <;> omega, hf⟩
  · rw [hw] at k
    have := of_decide_eq_true k
    rw [e1, e2, e3, e4, if_pos this]
    rw [show min (max P 0) (unV s) = P by omega] at q ⊢
    exact ⟨_, _, _, _, rfl, rfl, rfl, rfl, by omega, by omega, F0, L0, hl, by split <;> omega, by omega⟩
  · rw [hw] at k
    have := of_decide_eq_true k
    rw [e1, e2, e3, e4, if_pos this]
    rw [show min (max P 0) (unV s) = P by omega] at q ⊢
    rw [show min (max F 0) 1099511627776 = F by omega]
    refine ⟨_, _, _, _, rfl, rfl, rfl, rfl, by omega, by omega, by omega, by omega, by omega, by split <;> omega, ?_⟩
    rw [Int.add_mul, Int.one_mul]
    generalize F * unV s = T at *
    omega

set_option maxRecDepth 100000 in
set_option maxHeartbeats 4000000 in
theorem some_ (W : World) (A : Option Addr) (n c : Nat) (xs : List Int) (hi : Nums .u16 W A n xs) (hc : n ≤ c) (hn : n ≤ 400) (hx : ∀ j : Nat, j < n → 0 ≤ xs.getD j 0 ∧ xs.getD j 0 ≤ 65535) (h : Int) (h0 : 0 ≤ h) (h1 : h ≤ 65535) (k : Nat) (hk : k < 256) (l : Int) (l0 : 0 ≤ l) (l1 : l ≤ 255) :
    Calls Try.prog 7 #[.slice A n c, .int .u16 h, .agg #[.int .u8 k, .int .u8 l]] W fun e W' => e = .returned (.bool true) ∧ Below W.heap.size W W' := by
  have HI := Lib.hid hi
  have HX := Lib.hid hx
  have A0 : Below W.heap.size W W := Below.refl _ _
  have HS := Lib.hid (fun w => law9_set k hk w)
  have hf : knB (setV k) = true := by
    have := set_kn k
    simpa [knB, Kn] using this
  generalize setV k = s at *
  have hU : 6000000 ≤ unV s ∧ unV s ≤ 36000000 := by
    rcases un_ways s with ⟨e, _⟩ | ⟨_, u0, u1, _⟩
    · rw [hf] at e; cases e
    · exact ⟨u0, u1⟩
  have t0 : decide (400 < (n : Int)) = false := decide_eq_false (by omega)
  have i0 : IntKind.i64.wrap l = l := IntWalk.i64_in _ (by omega)
  have i1 : IntKind.i64.wrap (1 + l) = 1 + l := IntWalk.i64_in _ (by omega)
  clear hi hx hf
  go_enter Try.func7, Try.ntmps7
  go_wp2
  refine wp_region_calm (by kernel_rfl) (by kernel_rfl) ?_
  repeat (go_big_quiet_step (((go_at_call 28; exact calm_same _ (HS.out _)))))
  refine wpQuiet_nil ?_
  intro _ hw'
  obtain ⟨u, rfl⟩ := hw'
  have A1 : Below W.heap.size W u.at_ := by (repeat (first | (with_reducible exact Below.refl _ _) | (with_reducible assumption) | (with_reducible refine Near.up _ ?_) | (with_reducible refine Below.drew ?_) | (with_reducible refine below_alloc_on ?_ _) | (with_reducible refine below_set_on ?_ (by first | (simp; done) | (simp; omega) | omega) _)))
  generalize u.at_ = w1 at *
  go_upto_region 7 with fail
  have A2 := below_alloc_on A1 (.cells #[.int .i64 (1 + l), .int .i64 0, .int .i64 0, .int .i64 0] 31)
  have P2 := box_new w1 #[.int .i64 (1 + l), .int .i64 0, .int .i64 0, .int .i64 0] 31
  have hg : W.heap.size ≤ w1.heap.size := A1.size
  generalize w1.alloc (.cells #[.int .i64 (1 + l), .int .i64 0, .int .i64 0, .int .i64 0] 31) = w2 at *
  generalize w1.heap.size = g at *
  clear A0 A1 HS
  obtain ⟨left, hleft⟩ : ∃ left, 1 + l = left := ⟨_, rfl⟩
  rw [hleft] at P2
  simp only [hleft]
  clear i0 i1
  have lf0 : 1 ≤ left := by omega
  have lf1 : left ≤ 256 := by omega
  clear hleft l0 l1
  go_loopg [10, 27] n (fun q v i wr => ∃ (j : Nat) (L P S F fl : Int), j ≤ n ∧ q = n - j ∧ i = .int .i64 j ∧ v = .int .i64 fl ∧ 0 ≤ P ∧ P < unV s ∧ 0 ≤ F ∧ 0 ≤ L ∧ F + L = left ∧ S ≤ 3 ∧ Hid (F * unV s + P = fl) ∧ 0 ≤ fl ∧ fl ≤ j * 2457600 ∧ Below W.heap.size W wr ∧ Box wr g #[.int .i64 L, .int .i64 P, .int .i64 S, .int .i64 F])
  case atStart => exact ⟨0, left, 0, 0, 0, 0, Nat.zero_le _, rfl, rfl, rfl, by omega, by omega, by omega, by omega, by omega, by omega, Lib.hid (by simp), by omega, by omega, A2, P2⟩
  case round =>
    clear A2 P2
    obtain ⟨j, L, P, S, F, fl, hj, rfl, rfl, rfl, p0, p1, F0, L0, hFL, hS, hfl, fl0, fl1, A, B⟩ := hrel
    by_cases hlt : j < n
    · obtain ⟨b, off, rfl, hbs, hcell⟩ := HI.out.at_ hlt
      obtain ⟨x0, x1⟩ := HX.out j hlt
      have hck := (A.cell (p := ⟨b, off + j, none⟩) hbs).trans hcell
      have hbq : b < wr.heap.size := Nat.lt_of_lt_of_le hbs A.size
      clear hcell
      generalize xs.getD j 0 = x at *
      have ⟨f0, f1⟩ := fw_bd x h
      have ix : IntKind.i64.wrap x = x := IntWalk.i64_in _ (by omega)
      have ih : IntKind.i64.wrap h = h := IntWalk.i64_in _ (by omega)
      have HF := Lib.hid (fun w => pl_flow x h w)
      have HP := Lib.hid (fun w => pl_step L P S F x h s (by omega) (by omega) w)
      have HU := Lib.hid (fun w => pl_unit s w)
      obtain ⟨L2, P2, S2, F2, e1, e2, e3, e4, q0, q1, q2, q3, q4, q5, q6⟩ := keeps (o := x) (h := h) hU p0 p1 F0 L0 hFL lf1 hfl.out hS
      rw [e1, e2, e3, e4] at HP
      generalize plX L P S s x h = X at *
      generalize fwV x h = G at *
      clear e1 e2 e3 e4
      obtain ⟨fl2, hfl2⟩ : ∃ fl2, (if 0 < L then fl + G else fl) = fl2 := ⟨_, rfl⟩
      rw [hfl2] at q6
      have z0 : 0 ≤ fl2 ∧ fl2 ≤ (j + 1) * 2457600 := by rw [← hfl2]; split <;> omega
      have HQ := Lib.hid q6
      obtain ⟨T, hT⟩ : ∃ T, F2 * unV s = T := ⟨_, rfl⟩
      rw [hT] at q6
      obtain ⟨U, hUe⟩ : ∃ U, unV s = U := ⟨_, rfl⟩
      rw [hUe] at hT HU hU q1 p1
      have iT : IntKind.i64.wrap T = T := IntWalk.i64_in _ (by omega)
      have iT2 : IntKind.i64.wrap (T + P2) = fl2 := by rw [q6]; exact IntWalk.i64_in _ (by omega)
      have iF : IntKind.i64.wrap (F2 + L2) = left := by rw [q4]; exact IntWalk.i64_in _ (by omega)
      have t1 : (fl2 != fl2) = false := by simp
      have t2 : (left != left) = false := by simp
      have t3 : decide (P2 < 0) = false := decide_eq_false (by omega)
      have t4 : decide (U ≤ P2) = false := decide_eq_false (by omega)
      obtain ⟨lB, cB, fB⟩ := id B
      clear HI HX hfl
      by_cases hL : 0 < L
      · have t5 := decide_eq_true hL
        rw [if_pos hL] at hfl2
        have i5 : IntKind.i64.wrap (fl + G) = fl2 := by rw [hfl2]; exact IntWalk.i64_in _ (by omega)
        go_wp2_with (go_at_call 25; refine (HF.out _).mono ?_; rintro e w' ⟨rfl, rfl⟩)
        refine wp_region_calm_fan 10 _ _ rfl rfl (by kernel_rfl) (by kernel_rfl) (fun _ _ _ _ h => h) (fun _ _ _ _ h => h) ?_
        simp only [List.take_succ_cons, List.take_zero, List.drop_succ_cons, List.drop_zero]
        repeat (go_big_quiet_step (((go_at_call 21; exact calm_of _ (HP.out _)))))
        refine wpQuiet_nil ?_
        apply Exists.intro
        apply Exists.intro
        refine ⟨Or.inl ⟨rfl, fun w => ?_⟩, Or.inl ⟨rfl, fun w => ?_⟩, ?_⟩
        · go_simp
          rfl
        · go_simp
          rfl
        intro _ hw'
        obtain ⟨u, rfl⟩ := hw'
        have A3 := u.up A
        have B3 := B.near u
        generalize u.at_ = w3 at *
        clear lB cB fB A B hck hbq
        obtain ⟨lB, cB, fB⟩ := id B3
        go_wp2
        have A4 : Below W.heap.size W ((((w3.setCell ⟨g, 0, none⟩ (.int .i64 L2)).setCell ⟨g, 1, none⟩ (.int .i64 P2)).setCell ⟨g, 2, none⟩ (.int .i64 S2)).setCell ⟨g, 3, none⟩ (.int .i64 F2)) := by (repeat (first | (with_reducible exact Below.refl _ _) | (with_reducible assumption) | (with_reducible refine Near.up _ ?_) | (with_reducible refine Below.drew ?_) | (with_reducible refine below_alloc_on ?_ _) | (with_reducible refine below_set_on ?_ (by first | (simp; done) | (simp; omega) | omega) _)))
        have B4 : Box ((((w3.setCell ⟨g, 0, none⟩ (.int .i64 L2)).setCell ⟨g, 1, none⟩ (.int .i64 P2)).setCell ⟨g, 2, none⟩ (.int .i64 S2)).setCell ⟨g, 3, none⟩ (.int .i64 F2)) g #[.int .i64 L2, .int .i64 P2, .int .i64 S2, .int .i64 F2] := by
          have := (((B3.set (i := 0) (by simp) (.int .i64 L2)).set (i := 1) (by simp) (.int .i64 P2)).set (i := 2) (by simp) (.int .i64 S2)).set (i := 3) (by simp) (.int .i64 F2)
          simpa using this
        generalize (((w3.setCell ⟨g, 0, none⟩ (.int .i64 L2)).setCell ⟨g, 1, none⟩ (.int .i64 P2)).setCell ⟨g, 2, none⟩ (.int .i64 S2)).setCell ⟨g, 3, none⟩ (.int .i64 F2) = w4 at *
        clear lB cB fB A3 B3
        obtain ⟨lB, cB, fB⟩ := id B4
        refine wp_region_calm (by kernel_rfl) (by kernel_rfl) ?_
        repeat (go_big_quiet_step (((go_at_call 23; exact calm_same _ (HU.out _)))))
        refine wpQuiet_nil ?_
        intro _ hw'
        obtain ⟨u, rfl⟩ := hw'
        go_wp2
        go_roundg (n - (j + 1))
        case rel => exact ⟨j + 1, L2, P2, S2, F2, fl2, by omega, rfl, by go_num, rfl, q0, by rw [hUe]; exact q1, q2, q3, q4, q5, HQ, z0.1, by have := z0.2; omega, u.up A4, B4.near u⟩
        case measure => omega
      · have t5 := decide_eq_false hL
        rw [if_neg hL] at hfl2
        subst hfl2
        go_wp2
        refine wp_region_calm_fan 10 _ _ rfl rfl (by kernel_rfl) (by kernel_rfl) (fun _ _ _ _ h => h) (fun _ _ _ _ h => h) ?_
        simp only [List.take_succ_cons, List.take_zero, List.drop_succ_cons, List.drop_zero]
        repeat (go_big_quiet_step (((go_at_call 21; exact calm_of _ (HP.out _)))))
        refine wpQuiet_nil ?_
        apply Exists.intro
        apply Exists.intro
        refine ⟨Or.inl ⟨rfl, fun w => ?_⟩, Or.inl ⟨rfl, fun w => ?_⟩, ?_⟩
        · go_simp
          rfl
        · go_simp
          rfl
        intro _ hw'
        obtain ⟨u, rfl⟩ := hw'
        have A3 := u.up A
        have B3 := B.near u
        generalize u.at_ = w3 at *
        clear lB cB fB A B hck hbq
        obtain ⟨lB, cB, fB⟩ := id B3
        go_wp2
        have A4 : Below W.heap.size W ((((w3.setCell ⟨g, 0, none⟩ (.int .i64 L2)).setCell ⟨g, 1, none⟩ (.int .i64 P2)).setCell ⟨g, 2, none⟩ (.int .i64 S2)).setCell ⟨g, 3, none⟩ (.int .i64 F2)) := by (repeat (first | (with_reducible exact Below.refl _ _) | (with_reducible assumption) | (with_reducible refine Near.up _ ?_) | (with_reducible refine Below.drew ?_) | (with_reducible refine below_alloc_on ?_ _) | (with_reducible refine below_set_on ?_ (by first | (simp; done) | (simp; omega) | omega) _)))
        have B4 : Box ((((w3.setCell ⟨g, 0, none⟩ (.int .i64 L2)).setCell ⟨g, 1, none⟩ (.int .i64 P2)).setCell ⟨g, 2, none⟩ (.int .i64 S2)).setCell ⟨g, 3, none⟩ (.int .i64 F2)) g #[.int .i64 L2, .int .i64 P2, .int .i64 S2, .int .i64 F2] := by
          have := (((B3.set (i := 0) (by simp) (.int .i64 L2)).set (i := 1) (by simp) (.int .i64 P2)).set (i := 2) (by simp) (.int .i64 S2)).set (i := 3) (by simp) (.int .i64 F2)
          simpa using this
        generalize (((w3.setCell ⟨g, 0, none⟩ (.int .i64 L2)).setCell ⟨g, 1, none⟩ (.int .i64 P2)).setCell ⟨g, 2, none⟩ (.int .i64 S2)).setCell ⟨g, 3, none⟩ (.int .i64 F2) = w4 at *
        clear lB cB fB A3 B3
        obtain ⟨lB, cB, fB⟩ := id B4
        refine wp_region_calm (by kernel_rfl) (by kernel_rfl) ?_
        repeat (go_big_quiet_step (((go_at_call 23; exact calm_same _ (HU.out _)))))
        refine wpQuiet_nil ?_
        intro _ hw'
        obtain ⟨u, rfl⟩ := hw'
        go_wp2
        go_roundg (n - (j + 1))
        case rel => exact ⟨j + 1, L2, P2, S2, F2, fl, by omega, rfl, by go_num, rfl, q0, by rw [hUe]; exact q1, q2, q3, q4, q5, HQ, z0.1, by have := z0.2; omega, u.up A4, B4.near u⟩
        case measure => omega
    · obtain rfl : j = n := by omega
      go_wp2_with (fail)
      refine (law48_awake _).mono ?_
      rintro e w5 ⟨rfl, hb⟩
      replace A : Below W.heap.size W w5 := by (refine below_call ?_ hb; (repeat (first | (with_reducible exact Below.refl _ _) | (with_reducible assumption) | (with_reducible refine Near.up _ ?_) | (with_reducible refine Below.drew ?_) | (with_reducible refine below_alloc_on ?_ _) | (with_reducible refine below_set_on ?_ (by first | (simp; done) | (simp; omega) | omega) _))))
      clear hb
      have z_w5 : W.heap.size ≤ w5.heap.size := A.size
      go_wp2
      all_goals go_ret
      all_goals exact ⟨rfl, A⟩
theorem walk (W : World) (A : Option Addr) (n c : Nat) (xs : List Int) (hi : Nums .u16 W A n xs) (hc : n ≤ c) (hr : n * 2 ≤ 140737488351232) (hw : ∀ x ∈ xs, (Lit.int .u16 x).wf = true) (h : Int) (wh : (Lit.int .u16 h).wf = true) (k : Int) (wk : (Lit.int .u8 k).wf = true) (l : Int) (wl : (Lit.int .u8 l).wf = true) :
    Calls Try.prog 7 #[.slice A n c, .int .u16 h, .agg #[.int .u8 k, .int .u8 l]] W fun e W' => e = .returned (.bool true) ∧ Below W.heap.size W W' := by
  simp only [Lit.wf, IntKind.min, IntKind.max, IntKind.signed, IntKind.bits, Bool.and_eq_true] at wh wk wl
  simp at wh wk wl
  by_cases hn : 400 < n
  · have t1 : decide (400 < (n : Int)) = true := decide_eq_true (by omega)
    have A0 : Below W.heap.size W W := Below.refl _ _
    clear hi hw
    go_enter Try.func7, Try.ntmps7
    go_wp2_with (fail)
    refine (law48_awake _).mono ?_
    rintro e w1 ⟨rfl, hb⟩
    have A1 : Below W.heap.size W w1 := below_call (by (repeat (first | (with_reducible exact Below.refl _ _) | (with_reducible assumption) | (with_reducible refine Near.up _ ?_) | (with_reducible refine Below.drew ?_) | (with_reducible refine below_alloc_on ?_ _) | (with_reducible refine below_set_on ?_ (by first | (simp; done) | (simp; omega) | omega) _)))) hb
    go_wp2
    all_goals go_ret
    all_goals exact ⟨rfl, A1⟩
  · obtain ⟨kn, rfl⟩ : ∃ kn : Nat, k = (kn : Int) := ⟨k.toNat, by omega⟩
    refine some_ W A n c xs hi hc (by omega) (fun j hj => ?_) h (by omega) (by omega) kn (by omega) l (by omega) (by omega)
    have hj' : j < xs.length := by have := hi.1; omega
    have h := hw (xs.getD j 0) (by simp [List.getD, List.getElem?_eq_getElem hj'])
    simp only [Lit.wf, IntKind.min, IntKind.max, IntKind.signed, IntKind.bits, Bool.and_eq_true] at h
    simpa using h

set_option maxRecDepth 100000 in
theorem lifted (os : Os) (started : os.Started) (H : Type) (enc : TypeId × Value → H) :
    ReturnsInHanded {} Try.checked os 7 .any (Rows.plantKeepsSpec.pre6 enc Try.prog Try.f7 Rows.plantKeepsRow.domain false) (Rows.plantKeepsSpec.post enc Try.prog Try.f7 false true false false) := by
  refine law_lift started (by kernel_rfl) Try.func7 rfl rfl ?_ (by kernel_rfl)
    (ChangeSpec.witness6 (enc := enc) (C := Try.checked) false ⟨#[], #[.slice none 0 0, .int .u16 0, .agg #[.int .u8 0, .int .u8 0]], []⟩ 8 (by kernel_rfl) (by kernel_rfl) (by kernel_rfl) (by kernel_rfl)) ?_
  · intro ds hl
    match ds, hl with
    | [_, _, _], _ => exact ⟨rfl, rfl, rfl⟩
  · intro W base args ds p hval hA hlt hwt
    rw [Try.params7] at hA hval hwt
    obtain ⟨v0, vs0, d0, ds0, p0, q0, hargs, rfl, rfl, h0, r0⟩ := trodAll_cons hA
    obtain ⟨v1, vs1, d1, ds1, p1, q1, rfl, rfl, rfl, h1, r1⟩ := trodAll_cons r0
    obtain ⟨v2, vs2, d2, ds2, p2, q2, rfl, rfl, rfl, h2, r2⟩ := trodAll_cons r1
    obtain ⟨rfl, rfl, rfl⟩ := trodAll_nil r2
    obtain rfl : args = #[v0, v1, v2] := by cases args; simp_all
    have wt0 : ∀ n ∈ d0.weights Try.prog 37, n ≤ reachBytes := fun n hn => by
      have := List.all_eq_true.1 hwt n (DataW.weights_mem_each (j := 0) (t := 37) (d := d0) rfl rfl n hn)
      simpa using this
    have lt0 : ∀ x ∈ p0, x.block < W.heap.size := fun x hx => hlt x (by simp [hx])
    obtain ⟨A0, n0, c0, xs0, rfl, hi0, hc0, hr0, w0⟩ := open_nums_arg (nb := 2) Try.underlying37 Try.underlying38 (by kernel_rfl) (by kernel_rfl) (hval 0 37 v0 rfl rfl) h0 lt0 wt0
    obtain ⟨a1, rfl, rfl, rfl, w1⟩ := open_int Try.underlying38 (hval 1 38 v1 rfl rfl) h1
    obtain ⟨xs2, rfl, l2, w2⟩ := open_int_cells Try.underlying39 Try.underlying5 (by kernel_rfl) (by kernel_rfl) (hval 2 39 v2 rfl rfl) h2
    match xs2, l2, w2 with
    | [x2_0, x2_1], _, w2 =>
    exact walk W A0 n0 c0 xs0 hi0 hc0 hr0 w0 a1 w1 x2_0 (w2 _ (by simp)) x2_1 (w2 _ (by simp))

theorem over : Rows.plantKeepsRow.holds Try.pinned (OpenSpec.ofChange Rows.plantKeepsSpec) :=
  OpenClaim.holds_of_wide 7 Try.f7 rfl rfl rfl rfl rfl rfl rfl ⟨rfl, rfl, rfl, rfl, rfl⟩ rfl rfl rfl rfl rfl (by kernel_rfl) Try.func7 (by kernel_rfl)
    (of_decide_eq_true (by kernel_rfl)) (by unfold Func.isWrapper; first | (rw [if_pos (by decide +kernel)]; kernel_rfl) | (rw [if_neg (by decide +kernel)]; exact ⟨rfl, rfl⟩))
    (fun os started H enc _ => lifted os started H enc)

theorem proved : Rows.PlantKeepsSaid := over
#print axioms proved
end Go.Proofs.Ythijabhnmjbboaa.plantKeeps
