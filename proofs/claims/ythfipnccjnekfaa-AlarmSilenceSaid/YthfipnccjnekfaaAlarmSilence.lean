/- AlarmSilence holds of every list of deeds: silence changes nothing of what is shown, and what is of the highest level is never quite silent. No condition. -/
import Derived.Test.YthfipnccjnekfaaAlarm
import Derived.Test.YthfipnccjnekfaaLeaf
namespace Go.Proofs.Ythfipnccjnekfaa.alarmSilence
open Go.ChangeShapes Go.WideShapes Go.ChangeAt Go.RowKit Go.Deep
set_option linter.unusedVariables false
attribute [local go_sem] cell_set_ite Near.cell Near.frozen

/-- The deeds, read. -/
theorem deeds_of {w : World} {A : Option Addr} {n : Nat} {rs : List (List Value)} (h : Rows [.int .u8, .bool, .bool] w A n rs) :
    ∃ (L : Nat → Int) (F S : Nat → Bool), (∀ i, i < n → 0 ≤ L i ∧ L i ≤ 255) ∧
      (0 < n → ∃ b off, A = some ⟨b, off, Option.none⟩ ∧ b < w.heap.size ∧ ∀ i, i < n → w.cell? ⟨b, off + i * 3, Option.none⟩ = some (.int .u8 (L i)) ∧ w.cell? ⟨b, off + i * 3 + 1, Option.none⟩ = some (.bool (F i)) ∧ w.cell? ⟨b, off + i * 3 + 2, Option.none⟩ = some (.bool (S i))) := by
  have hc : ∀ i, ∃ (l : Int) (f s : Bool), i < n → (rs.getD i []).getD 0 undef = .int .u8 l ∧ (rs.getD i []).getD 1 undef = .bool f ∧ (rs.getD i []).getD 2 undef = .bool s ∧ 0 ≤ l ∧ l ≤ 255 := fun i => by
    by_cases hi : i < n
    · obtain ⟨h0, h1⟩ := h.2.1 i hi
      obtain ⟨l, e0, w0⟩ : leafIs (.int .u8) ((rs.getD i []).getD 0 undef) := h1 0 _ rfl
      obtain ⟨f, e1⟩ : leafIs .bool ((rs.getD i []).getD 1 undef) := h1 1 _ rfl
      obtain ⟨s, e2⟩ : leafIs .bool ((rs.getD i []).getD 2 undef) := h1 2 _ rfl
      simp only [Lit.wf, IntKind.min, IntKind.max, IntKind.signed, IntKind.bits, Bool.and_eq_true] at w0
      simp at w0
      exact ⟨l, f, s, fun _ => ⟨e0, e1, e2, by omega, by omega⟩⟩
    · exact ⟨0, false, false, fun g => absurd g hi⟩
  obtain ⟨L, hL⟩ : ∃ L : Nat → Int, ∀ i, ∃ (f s : Bool), i < n → (rs.getD i []).getD 0 undef = .int .u8 (L i) ∧ (rs.getD i []).getD 1 undef = .bool f ∧ (rs.getD i []).getD 2 undef = .bool s ∧ 0 ≤ L i ∧ L i ≤ 255 := ⟨fun i => Classical.choose (hc i), fun i => Classical.choose_spec (hc i)⟩
  obtain ⟨F, hF⟩ : ∃ F : Nat → Bool, ∀ i, ∃ (s : Bool), i < n → (rs.getD i []).getD 0 undef = .int .u8 (L i) ∧ (rs.getD i []).getD 1 undef = .bool (F i) ∧ (rs.getD i []).getD 2 undef = .bool s ∧ 0 ≤ L i ∧ L i ≤ 255 := ⟨fun i => Classical.choose (hL i), fun i => Classical.choose_spec (hL i)⟩
  obtain ⟨S, hS⟩ : ∃ S : Nat → Bool, ∀ i, i < n → (rs.getD i []).getD 0 undef = .int .u8 (L i) ∧ (rs.getD i []).getD 1 undef = .bool (F i) ∧ (rs.getD i []).getD 2 undef = .bool (S i) ∧ 0 ≤ L i ∧ L i ≤ 255 := ⟨fun i => Classical.choose (hF i), fun i => Classical.choose_spec (hF i)⟩
  refine ⟨L, F, S, fun i hi => (hS i hi).2.2.2, fun h0 => ?_⟩
  obtain ⟨b, off, rfl, hlt, hcell⟩ := h.2.2 h0
  refine ⟨b, off, rfl, hlt, fun i hi => ?_⟩
  obtain ⟨e0, e1, e2, _⟩ := hS i hi
  have c0 := hcell i hi 0 (by decide)
  have c1 := hcell i hi 1 (by decide)
  have c2 := hcell i hi 2 (by decide)
  rw [e0] at c0
  rw [e1] at c1
  rw [e2] at c2
  exact ⟨c0, c1, c2⟩

theorem sil_zero (n : Int) (f : Bool) : alS 0 n f false = 0 := by
  unfold alS siV; split <;> (try split) <;> simp <;> omega
theorem cls_zero (a n : Int) (f : Bool) : alC a 0 n f false = alT a n := by
  have h : siV 0 f false = 0 := by unfold siV; split <;> simp <;> omega
  unfold alC alT
  rw [h]
  split
  · rfl
  · unfold csV; rw [if_pos (by omega)]
theorem shown_bd {a n : Int} (n0 : 0 ≤ n) (n1 : n ≤ 3) : 0 ≤ alT a n ∧ alT a n ≤ 3 ∧ n ≤ alT a n := by
  have : alN n = n := by unfold alN; omega
  unfold alT
  rw [this]
  split
  · omega
  · unfold shV; split <;> omega
theorem class_bd {a b n : Int} {f s : Bool} (n0 : 0 ≤ n) (n1 : n ≤ 3) : 0 ≤ alC a b n f s ∧ alC a b n f s ≤ alT a n ∧ (alT a n = 3 → alC a b n f s ≠ 0) ∧ (0 < n → f = true → alC a b n f s = alT a n) := by
  have hN : alN n = n := by unfold alN; omega
  obtain ⟨h1, h2, h3⟩ : 0 ≤ shV (moV a) n ∧ (n ≠ 0 → shV (moV a) n ≤ 3) ∧ n ≤ shV (moV a) n := by unfold shV; split <;> omega
  unfold alC alT
  rw [hN]
  by_cases h : n = 0
  · simp only [if_pos h]
    exact ⟨by omega, by omega, by omega, fun h0 _ => trivial⟩
  · simp only [if_neg h]
    replace h2 := h2 h
    have hs := si_bd b f s
    have hf : f = true → siV b f s = 0 := fun hf => by unfold siV; rw [if_pos hf]
    generalize shV (moV a) n = T at *
    unfold csV
    by_cases g : siV b f s ≤ 0
    · rw [if_pos g]; exact ⟨by omega, by omega, by omega, fun _ _ => rfl⟩
    · rw [if_neg g]
      refine ⟨by split <;> omega, by split <;> omega, fun e => by rw [if_pos e]; omega, fun _ hf' => absurd (hf hf') (by omega)⟩

set_option maxRecDepth 100000 in
set_option maxHeartbeats 4000000 in
theorem some_ (W : World) (A0 : Option Addr) (n c : Nat) (L : Nat → Int) (F S : Nat → Bool) (hL : ∀ i, i < n → 0 ≤ L i ∧ L i ≤ 255)
    (hi : 0 < n → ∃ b off, A0 = some ⟨b, off, none⟩ ∧ b < W.heap.size ∧ ∀ i, i < n → W.cell? ⟨b, off + i * 3, none⟩ = some (.int .u8 (L i)) ∧ W.cell? ⟨b, off + i * 3 + 1, none⟩ = some (.bool (F i)) ∧ W.cell? ⟨b, off + i * 3 + 2, none⟩ = some (.bool (S i)))
    (hc : n ≤ c) (hn : n ≤ 100) :
    Calls Try.prog 10 #[.slice A0 n c] W fun e W' => e = .returned (.bool true) ∧ Below W.heap.size W W' := by
  have HI := Lib.hid hi
  have HL := Lib.hid hL
  have A : Below W.heap.size W W := Below.refl _ _
  have B := (box_new W #[.int .i64 0, .int .i64 0] 49).alloc (.cells #[.int .i64 0, .int .i64 0] 49)
  have C := box_at (W.alloc (.cells #[.int .i64 0, .int .i64 0] 49)) #[.int .i64 0, .int .i64 0] 49 (g := W.heap.size + 1) (by simp)
  have tn : decide (100 < (n : Int)) = false := decide_eq_false (by omega)
  clear hi hL
  go_enter Try.func10, Try.ntmps10
  go_wp2
  replace A := below_alloc_on (below_alloc_on A (.cells #[.int .i64 0, .int .i64 0] 49)) (.cells #[.int .i64 0, .int .i64 0] 49)
  generalize (W.alloc (.cells #[.int .i64 0, .int .i64 0] 49)).alloc (.cells #[.int .i64 0, .int .i64 0] 49) = w1 at *
  go_loopg [18] n (fun g i wr => ∃ (j : Nat) (x y : Int), j ≤ n ∧ g = n - j ∧ i = .int .i64 j ∧ Below W.heap.size W wr ∧ Box wr W.heap.size #[.int .i64 x, .int .i64 y] ∧ Box wr (W.heap.size + 1) #[.int .i64 x, .int .i64 0])
  case atStart => exact ⟨0, 0, 0, Nat.zero_le _, rfl, rfl, A, B, C⟩
  case round =>
    clear A B C
    obtain ⟨j, x, y, hj, rfl, rfl, A, B, C⟩ := hrel
    by_cases hlt : j < n
    · obtain ⟨b, off, rfl, hbs, hck⟩ := HI.out (show 0 < n by omega)
      obtain ⟨k0, k1, k2⟩ := hck j hlt
      replace k0 := (A.cell (p := ⟨b, off + j * 3, none⟩) hbs).trans k0
      replace k1 := (A.cell (p := ⟨b, off + j * 3 + 1, none⟩) hbs).trans k1
      replace k2 := (A.cell (p := ⟨b, off + j * 3 + 2, none⟩) hbs).trans k2
      obtain ⟨l0, l1⟩ := HL.out j hlt
      clear hck
      generalize L j = l at *
      generalize F j = f at *
      generalize S j = s at *
      obtain ⟨N, hN⟩ : ∃ N, l % 4 = N := ⟨_, rfl⟩
      have n0 : 0 ≤ N := by omega
      have n1 : N ≤ 3 := by omega
      obtain ⟨lB, cB, fB⟩ := id B
      obtain ⟨lC, cC, fC⟩ := id C
      have zb : b < wr.heap.size := Nat.lt_of_lt_of_le hbs A.size
      have HS := Lib.hid (fun w => al_step x y N f s w)
      have HZ := Lib.hid (fun w => al_step x 0 N f false w)
      rw [sil_zero, cls_zero] at HZ
      obtain ⟨s0, s1, s2⟩ := shown_bd (a := x) n0 n1
      obtain ⟨c0, c1, c2, c3⟩ := class_bd (a := x) (b := y) (f := f) (s := s) n0 n1
      generalize alA x N = x2 at *
      generalize alS y N f s = y2 at *
      generalize alT x N = T at *
      generalize alC x y N f s = K at *
      have H2 := Lib.hid c2
      have H3 := Lib.hid c3
      clear c2 c3
      go_wp2_with (fail)
      refine (HS.out _).mono ?_
      rintro e w2 ⟨rfl, hb⟩
      replace A : Below W.heap.size W w2 := by (refine below_call ?_ hb; (repeat (first | (with_reducible exact Below.refl _ _) | (with_reducible assumption) | (with_reducible refine Near.up _ ?_) | (with_reducible refine Below.drew ?_) | (with_reducible refine below_alloc_on ?_ _) | (with_reducible refine below_set_on ?_ (by first | (simp; done) | (simp; omega) | omega) _))))
      replace B := Box.below (g := W.heap.size) (by (repeat (first | (with_reducible assumption) | (with_reducible exact box_new _ _ _) | ((with_reducible apply box_at); (first | (with_reducible rfl) | (simp <;> omega))) | (with_reducible apply Box.drew) | (with_reducible apply Box.drewN) | (with_reducible apply Box.near) | (with_reducible apply Box.alloc) | ((with_reducible apply box_far); (first | assumption | omega | (simp <;> omega))) | (with_reducible apply Box.set) | (simp only [List.size_toArray, List.length_cons, List.length_nil, Array.size_setIfInBounds] <;> omega)))) hb
      (try simp only [List.setIfInBounds_toArray, List.set_cons_zero, List.set_cons_succ] at B)
      (try clear cB fB)
      replace C := Box.below (g := W.heap.size + 1) (by (repeat (first | (with_reducible assumption) | (with_reducible exact box_new _ _ _) | ((with_reducible apply box_at); (first | (with_reducible rfl) | (simp <;> omega))) | (with_reducible apply Box.drew) | (with_reducible apply Box.drewN) | (with_reducible apply Box.near) | (with_reducible apply Box.alloc) | ((with_reducible apply box_far); (first | assumption | omega | (simp <;> omega))) | (with_reducible apply Box.set) | (simp only [List.size_toArray, List.length_cons, List.length_nil, Array.size_setIfInBounds] <;> omega)))) hb
      (try simp only [List.setIfInBounds_toArray, List.set_cons_zero, List.set_cons_succ] at C)
      (try clear cC fC)
      replace D := Box.below (g := wr.heap.size) (by (repeat (first | (with_reducible assumption) | (with_reducible exact box_new _ _ _) | ((with_reducible apply box_at); (first | (with_reducible rfl) | (simp <;> omega))) | (with_reducible apply Box.drew) | (with_reducible apply Box.drewN) | (with_reducible apply Box.near) | (with_reducible apply Box.alloc) | ((with_reducible apply box_far); (first | assumption | omega | (simp <;> omega))) | (with_reducible apply Box.set) | (simp only [List.size_toArray, List.length_cons, List.length_nil, Array.size_setIfInBounds] <;> omega)))) hb
      (try simp only [List.setIfInBounds_toArray, List.set_cons_zero, List.set_cons_succ] at D)
      (try clear cD fD)
      clear hb
      have z_w2 : W.heap.size ≤ w2.heap.size := A.size
      obtain ⟨lB_w2, cB, fB⟩ := id B
      obtain ⟨lC_w2, cC, fC⟩ := id C
      obtain ⟨lD_w2, cD, fD⟩ := id D
      go_wp2_with (fail)
      refine (HZ.out _).mono ?_
      rintro e w3 ⟨rfl, hb⟩
      replace A : Below W.heap.size W w3 := by (refine below_call ?_ hb; (repeat (first | (with_reducible exact Below.refl _ _) | (with_reducible assumption) | (with_reducible refine Near.up _ ?_) | (with_reducible refine Below.drew ?_) | (with_reducible refine below_alloc_on ?_ _) | (with_reducible refine below_set_on ?_ (by first | (simp; done) | (simp; omega) | omega) _))))
      replace B := Box.below (g := W.heap.size) (by (repeat (first | (with_reducible assumption) | (with_reducible exact box_new _ _ _) | ((with_reducible apply box_at); (first | (with_reducible rfl) | (simp <;> omega))) | (with_reducible apply Box.drew) | (with_reducible apply Box.drewN) | (with_reducible apply Box.near) | (with_reducible apply Box.alloc) | ((with_reducible apply box_far); (first | assumption | omega | (simp <;> omega))) | (with_reducible apply Box.set) | (simp only [List.size_toArray, List.length_cons, List.length_nil, Array.size_setIfInBounds] <;> omega)))) hb
      (try simp only [List.setIfInBounds_toArray, List.set_cons_zero, List.set_cons_succ] at B)
      (try clear cB fB)
      replace C := Box.below (g := W.heap.size + 1) (by (repeat (first | (with_reducible assumption) | (with_reducible exact box_new _ _ _) | ((with_reducible apply box_at); (first | (with_reducible rfl) | (simp <;> omega))) | (with_reducible apply Box.drew) | (with_reducible apply Box.drewN) | (with_reducible apply Box.near) | (with_reducible apply Box.alloc) | ((with_reducible apply box_far); (first | assumption | omega | (simp <;> omega))) | (with_reducible apply Box.set) | (simp only [List.size_toArray, List.length_cons, List.length_nil, Array.size_setIfInBounds] <;> omega)))) hb
      (try simp only [List.setIfInBounds_toArray, List.set_cons_zero, List.set_cons_succ] at C)
      (try clear cC fC)
      replace D := Box.below (g := wr.heap.size) (by (repeat (first | (with_reducible assumption) | (with_reducible exact box_new _ _ _) | ((with_reducible apply box_at); (first | (with_reducible rfl) | (simp <;> omega))) | (with_reducible apply Box.drew) | (with_reducible apply Box.drewN) | (with_reducible apply Box.near) | (with_reducible apply Box.alloc) | ((with_reducible apply box_far); (first | assumption | omega | (simp <;> omega))) | (with_reducible apply Box.set) | (simp only [List.size_toArray, List.length_cons, List.length_nil, Array.size_setIfInBounds] <;> omega)))) hb
      (try simp only [List.setIfInBounds_toArray, List.set_cons_zero, List.set_cons_succ] at D)
      (try clear cD fD)
      clear hb
      have z_w3 : W.heap.size ≤ w3.heap.size := A.size
      obtain ⟨lB_w3, cB, fB⟩ := id B
      obtain ⟨lC_w3, cC, fC⟩ := id C
      obtain ⟨lD_w3, cD, fD⟩ := id D
      have t3 : (T != T) = false := by simp
      have t4 : (x2 != x2) = false := by simp
      have B2 := (B.far (p := ⟨W.heap.size + 1, 0, none⟩) (by simp) (.int .i64 x2)).far (p := ⟨W.heap.size + 1, 1, none⟩) (by simp) (.int .i64 0)
      have C2 := C.two_set (.int .i64 x2) (.int .i64 0)
      have HF : (f = true ∧ 0 < N ∧ (K != T) = false) ∨ f = false ∨ (f = true ∧ N = 0) := by
        cases f
        · exact .inr (.inl rfl)
        · by_cases hN : 0 < N
          · exact .inl ⟨rfl, hN, by rw [H3.out hN rfl]; simp⟩
          · exact .inr (.inr ⟨rfl, by omega⟩)
      have HG : ((T == 3) = true ∧ (K == 0) = false) ∨ (T == 3) = false := by
        by_cases e3 : T = 3
        · exact .inl ⟨by simpa using e3, by simpa using H2.out e3⟩
        · exact .inr (by simpa using e3)
      clear H2 H3 HL HI HS HZ
      rcases HG with ⟨t6, t7⟩ | t6
      all_goals rcases HF with ⟨rfl, hN, t8⟩ | rfl | ⟨rfl, rfl⟩
      all_goals
        go_wp2
        all_goals
          go_roundg (n - (j + 1))
          case rel => exact ⟨j + 1, x2, y2, by omega, rfl, by go_num, by (repeat (first | (with_reducible exact Below.refl _ _) | (with_reducible assumption) | (with_reducible refine Near.up _ ?_) | (with_reducible refine Below.drew ?_) | (with_reducible refine below_alloc_on ?_ _) | (with_reducible refine below_set_on ?_ (by first | (simp; done) | (simp; omega) | omega) _))), B2, C2⟩
          case measure => omega
    · obtain rfl : j = n := by omega
      go_wp2_with (fail)
      refine (law41_awake _).mono ?_
      rintro e w2 ⟨rfl, hb⟩
      replace A : Below W.heap.size W w2 := by (refine below_call ?_ hb; (repeat (first | (with_reducible exact Below.refl _ _) | (with_reducible assumption) | (with_reducible refine Near.up _ ?_) | (with_reducible refine Below.drew ?_) | (with_reducible refine below_alloc_on ?_ _) | (with_reducible refine below_set_on ?_ (by first | (simp; done) | (simp; omega) | omega) _))))
      clear hb
      have z_w2 : W.heap.size ≤ w2.heap.size := A.size
      go_wp2
      all_goals go_ret
      all_goals exact ⟨rfl, A⟩

theorem walk (W : World) (A : Option Addr) (n c : Nat) (rs : List (List Value)) (hi : Rows [.int .u8, .bool, .bool] W A n rs) (hc : n ≤ c) (hr : n * 3 ≤ 140737488351232) :
    Calls Try.prog 10 #[.slice A n c] W fun e W' => e = .returned (.bool true) ∧ Below W.heap.size W W' := by
  by_cases h : 100 < n
  · have t1 : decide (100 < (n : Int)) = true := decide_eq_true (by omega)
    clear hi
    go_enter Try.func10, Try.ntmps10
    go_wp2_with (fail)
    refine (law41_awake _).mono ?_
    rintro e w3 ⟨rfl, hb⟩
    go_wp2
    all_goals go_ret
    all_goals exact ⟨rfl, hb⟩
  · obtain ⟨L, F, S, hL, hT⟩ := deeds_of hi
    exact some_ W A n c L F S hL hT hc (by omega)

theorem lifted (os : Os) (started : os.Started) (H : Type) (enc : TypeId × Value → H) :
    ReturnsInHanded {} Try.checked os 10 .any (Rows.alarmSilenceSpec.pre6 enc Try.prog Try.f10 Rows.alarmSilenceRow.domain false) (Rows.alarmSilenceSpec.post enc Try.prog Try.f10 false true false false) := by
  refine law_lift started (by kernel_rfl) Try.func10 rfl rfl ?_ (by kernel_rfl)
    (ChangeSpec.witness6 (enc := enc) (C := Try.checked) false ⟨#[], #[.slice none 0 0], []⟩ 8 (by kernel_rfl) (by kernel_rfl) (by kernel_rfl) (by kernel_rfl)) ?_
  · intro ds hl
    match ds, hl with
    | [_], _ => exact ⟨rfl, rfl, rfl⟩
  · intro W base args ds p hval hA hlt hwt
    rw [Try.params10] at hA hval hwt
    obtain ⟨v0, vs0, d0, ds0, p0, q0, hargs, rfl, rfl, h0, r0⟩ := trodAll_cons hA
    obtain ⟨rfl, rfl, rfl⟩ := trodAll_nil r0
    obtain rfl : args = #[v0] := by cases args; simp_all
    have wt0 : ∀ n ∈ d0.weights Try.prog 55, n ≤ reachBytes := fun n hn => by
      have := List.all_eq_true.1 hwt n (DataW.weights_mem_each (j := 0) (t := 55) (d := d0) rfl rfl n hn)
      simpa using this
    have lt0 : ∀ x ∈ p0, x.block < W.heap.size := fun x hx => hlt x (by simp [hx])
    obtain ⟨A0, n0, c0, xs0, rfl, hi0, hc0, hr0⟩ := open_rows_arg 5 [.int .u8, .bool, .bool] Try.underlying55 (by kernel_rfl) (by kernel_rfl) (by decide) (by kernel_rfl) (hval 0 55 v0 rfl rfl) h0 lt0 wt0
    exact walk W A0 n0 c0 xs0 hi0 hc0 hr0

theorem over : Rows.alarmSilenceRow.holds Try.pinned (OpenSpec.ofChange Rows.alarmSilenceSpec) :=
  OpenClaim.holds_of_wide 10 Try.f10 rfl rfl rfl rfl rfl rfl rfl ⟨rfl, rfl, rfl, rfl, rfl⟩ rfl rfl rfl rfl rfl (by kernel_rfl) Try.func10 (by kernel_rfl)
    (of_decide_eq_true (by kernel_rfl)) (by unfold Func.isWrapper; first | (rw [if_pos (by decide +kernel)]; kernel_rfl) | (rw [if_neg (by decide +kernel)]; exact ⟨rfl, rfl⟩))
    (fun os started H enc _ => lifted os started H enc)

theorem proved : Rows.AlarmSilenceSaid := over
#print axioms proved
end Go.Proofs.Ythfipnccjnekfaa.alarmSilence
