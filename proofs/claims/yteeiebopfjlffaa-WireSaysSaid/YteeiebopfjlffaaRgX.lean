/- The document's reader: takeReal, whole. -/
import Derived.Test.YteeiebopfjlffaaRgR
namespace Go.Proofs.Yteeiebopfjlffaa
open Go.RowKit Ieee
set_option linter.unusedVariables false
set_option linter.unusedSimpArgs false
set_option maxRecDepth 100000
attribute [local go_sem] cell_set_ite run_store_real Near.cell Near.frozen

theorem Box.put2 {w : World} {K : Nat} {p q r : Value} (h : Box w K #[p, q, r]) (z : Value) : Box (w.setCell ⟨K, 2, none⟩ z) K #[p, q, z] := by
  have := h.set (i := 2) (by simp) z
  simpa using this
set_option maxHeartbeats 4000000 in
theorem rg_real_small (l : List UInt8) (a : Nat) (ha : a ≤ l.length) (hl : l.length ≤ 100000) (hw : rdW (l.drop a) 1 = false) (h6 : rdV (l.drop a) 1 ≠ 6) (w : World) :
    Calls Try.prog 46 #[rV l a true] w (RgR l a true w) := by
  have D0 : Below w.heap.size w w := Below.refl _ _
  have K1 := Lib.hid fun w => rg_num_ok l a 1 (by omega) (by omega) ha hl hw w
  have K2 := Lib.hid fun w => rg_special (rdV (l.drop a) 1) w
  obtain ⟨hR, hle⟩ := drop_rdR l a 1 ha hw
  have hF : spB (rdV (l.drop a) 1) = (true && !reW (l.drop a)) := by
    unfold reW spB; rw [if_neg h6, hw]; simp
  have hV : spN (rdV (l.drop a) 1) = if spB (rdV (l.drop a) 1) then reV (l.drop a) else spN (rdV (l.drop a) 1) := by
    cases hb : spB (rdV (l.drop a) 1)
    · rfl
    · unfold spB at hb
      have hb := of_decide_eq_true hb
      unfold reV spN
      rcases (show rdV (l.drop a) 1 = 1 ∨ rdV (l.drop a) 1 = 2 ∨ rdV (l.drop a) 1 = 3 ∨ rdV (l.drop a) 1 = 4 ∨ rdV (l.drop a) 1 = 5 by omega) with c | c | c | c | c <;> rw [c] <;> rfl
  have hG : reR (l.drop a) = l.drop (a + 1) := by unfold reR; rw [if_neg h6, hR]
  have HF := Lib.hid hF
  have HV := Lib.hid hV
  have HG := Lib.hid hG
  have hk6 : (((rdV (l.drop a) 1 : Nat) : Int) != 6) = true := by simp; omega
  have hk7 : (((rdV (l.drop a) 1 : Nat) : Int) == 6) = false := by simp; omega
  clear hF hV hG hR hw h6
  generalize spB (rdV (l.drop a) 1) = ok' at *
  generalize spN (rdV (l.drop a) 1) = xn at *
  generalize rdV (l.drop a) 1 = k at *
  unfold rV at K1
  show Calls _ _ #[.agg #[.string ⟨l.toArray⟩, .int .i64 a, .bool true]] w _
  go_enter Try.func46, Try.ntmps46
  go_wp2_with (fail)
  refine (K1.out _).mono ?_
  rintro e w1 ⟨rfl, b1⟩
  have A1 := below_call (below_alloc_on (below_alloc_on D0 _) _) b1
  have X1 : Box w1 (w.heap.size + 1) _ := (box_at (w.alloc _) _ _ (by simp)).below b1
  go_wp2_with (fail)
  refine (K2.out _).mono ?_
  rintro e w2 ⟨x, rfl, hx, hxl, b2⟩
  have X2 : Box w2 (w.heap.size + 1) _ := (X1.alloc _).below b2
  have Y2 : Box w2 w1.heap.size _ := (box_new w1 _ _).below b2
  have A2 := below_call (below_alloc_on A1 _) b2
  have d0 := X2.2.1 0
  have d1 := X2.2.1 1
  have d2 := X2.2.1 2
  have f0 := X2.2.2 0
  have f1 := X2.2.2 1
  have f2 := X2.2.2 2
  have e0 := Y2.2.1 0
  have e1 := Y2.2.1 1
  have e2 := Y2.2.1 2
  simp only [List.getElem?_toArray, List.getElem?_cons_succ, List.getElem?_cons_zero] at d0 d1 d2 e0 e1 e2
  have HX := Lib.hid X2
  have HXX := Lib.hid hx
  have lt1 := X2.1
  have lt2 := Y2.1
  have lt3 := X1.1
  clear X1 X2 Y2 hx
  go_wp2_with (fail)
  go_region
  go_wp2_with (fail)
  refine ret_real (K := w.heap.size + 1) (x := x) (a' := a + 1) (ok' := ok') (l := l) ?_ rfl rfl rfl ⟨x, a + 1, ok', rfl, HF.out, hle, hxl, fun h => ⟨by rw [HXX.out, HV.out, if_pos h], HG.out.symm⟩, by (repeat (first | (with_reducible exact Below.refl _ _) | (with_reducible assumption) | (with_reducible refine Near.up _ ?_) | (with_reducible refine Below.drew ?_) | (with_reducible refine below_alloc_on ?_ _) | (with_reducible refine below_set_on ?_ (by first | (simp; done) | (simp; omega) | omega) _)))⟩
  rw [Int.natCast_add]
  exact (HX.out.put3 _ _ _).drew
set_option maxHeartbeats 8000000 in
theorem rg_real6 (l : List UInt8) (a a2 a3 H L : Nat) (o2 o3 z : Bool) (p xr : Nat) (hp : p = H * 4294967296 + L) (v1 : H < 4294967296) (v2 : L < 4294967296)
    (hz : (o3 = false ∧ z = false ∧ xr = 0) ∨ (o3 = true ∧ kdV p = 6 ∧ z = true ∧ xr = p) ∨ (o3 = true ∧ kdV p ≠ 6 ∧ z = false ∧ xr = 0))
    (K1 : Hid (∀ w, Calls Try.prog 34 #[rV l a true, .int .i64 1] w fun e w' => e = .returned (.tuple #[.int .i64 6, rV l (a + 1) true]) ∧ Below w.heap.size w w'))
    (K2 : Hid (∀ w, Calls Try.prog 34 #[rV l (a + 1) true, .int .i64 4] w fun e w' => e = .returned (.tuple #[.int .i64 H, rV l a2 o2]) ∧ Below w.heap.size w w'))
    (K3 : Hid (∀ w, Calls Try.prog 34 #[rV l a2 o2, .int .i64 4] w fun e w' => e = .returned (.tuple #[.int .i64 L, rV l a3 o3]) ∧ Below w.heap.size w w')) (w : World) :
    Calls Try.prog 46 #[rV l a true] w fun e w' => e = .returned (.tuple #[.float .f64 xr, rV l a3 z]) ∧ Below w.heap.size w w' := by
  have D0 : Below w.heap.size w w := Below.refl _ _
  have hd : ∀ w, (callFunc 53 #[.int .u64 (bits .or .u64 ((H : Int) * 4294967296) (L : Int))]).run Try.prog w = .ok (.value (.float .f64 p)) w := fun w => by
    have := run_from (p : Nat) w
    rw [or_words H L v1 v2, ← hp, this, Int.toNat_natCast]
  have hpl : p < 18446744073709551616 := by omega
  have KK := Lib.hid fun w => q_kind p hpl w
  have HZ := Lib.hid hz
  clear hz hp hpl
  generalize kdV p = kp at *
  unfold rV at K1 K2 K3
  show Calls _ _ #[.agg #[.string ⟨l.toArray⟩, .int .i64 a, .bool true]] w _
  go_enter Try.func46, Try.ntmps46
  go_wp2_with (fail)
  refine (K1.out _).mono ?_
  rintro e w1 ⟨rfl, b1⟩
  have A1 := below_call (below_alloc_on (below_alloc_on D0 _) _) b1
  have X1 : Box w1 (w.heap.size + 1) _ := (box_at (w.alloc _) _ _ (by simp)).below b1
  have lt3 := X1.1
  go_wp2_with (fail)
  refine (K2.out _).mono ?_
  rintro e w2 ⟨rfl, b2⟩
  have X2 : Box w2 (w.heap.size + 1) _ := (X1.alloc _).below b2
  have A2 := below_call (below_alloc_on A1 _) b2
  clear X1
  go_wp2_with (fail)
  refine (K3.out _).mono ?_
  rintro e w3 ⟨rfl, b3⟩
  have X3 : Box w3 (w.heap.size + 1) _ := (X2.alloc _).below b3
  have A3 := below_call (below_alloc_on A2 _) b3
  have lt4 := X3.1
  have d0 := X3.2.1 0
  have d1 := X3.2.1 1
  have d2 := X3.2.1 2
  have f0 := X3.2.2 0
  have f1 := X3.2.2 1
  have f2 := X3.2.2 2
  simp only [List.getElem?_toArray, List.getElem?_cons_succ, List.getElem?_cons_zero] at d0 d1 d2
  have HX := Lib.hid X3
  clear X2 X3 D0
  rcases HZ.out with ⟨rfl, rfl, rfl⟩ | ⟨rfl, hk, rfl, rfl⟩ | ⟨rfl, hk, rfl, rfl⟩
  · go_wp2_with (fail)
    go_region
    go_wp2_with (fail)
    refine ret_real (K := w.heap.size + 1) (x := 0) (a' := a3) (ok' := false) (l := l) ?_ rfl rfl rfl ⟨rfl, by (repeat (first | (with_reducible exact Below.refl _ _) | (with_reducible assumption) | (with_reducible refine Near.up _ ?_) | (with_reducible refine Below.drew ?_) | (with_reducible refine below_alloc_on ?_ _) | (with_reducible refine below_set_on ?_ (by first | (simp; done) | (simp; omega) | omega) _)))⟩
    first
      | exact ((HX.out.put3 _ _ _).alloc _).drew
      | exact (HX.out.put3 _ _ _).drew
  · subst hk
    go_wp2_with (go_at_call 36; refine (KK.out _).mono ?_; rintro e w' ⟨rfl, rfl⟩)
    go_region
    go_wp2_with (fail)
    refine ret_real (K := w.heap.size + 1) (x := _) (a' := a3) (ok' := true) (l := l) ?_ rfl rfl rfl ⟨rfl, by (repeat (first | (with_reducible exact Below.refl _ _) | (with_reducible assumption) | (with_reducible refine Near.up _ ?_) | (with_reducible refine Below.drew ?_) | (with_reducible refine below_alloc_on ?_ _) | (with_reducible refine below_set_on ?_ (by first | (simp; done) | (simp; omega) | omega) _)))⟩
    first
      | exact ((HX.out.put3 _ _ _).alloc _).drew
      | exact (HX.out.put3 _ _ _).drew
  · have hk7 : (kp == 6) = false := by simp; exact hk
    clear hk
    go_wp2_with (go_at_call 36; refine (KK.out _).mono ?_; rintro e w' ⟨rfl, rfl⟩)
    go_region
    go_wp2_with (fail)
    refine ret_real (K := w.heap.size + 1) (x := 0) (a' := a3) (ok' := false) (l := l) ?_ rfl rfl rfl ⟨rfl, by (repeat (first | (with_reducible exact Below.refl _ _) | (with_reducible assumption) | (with_reducible refine Near.up _ ?_) | (with_reducible refine Below.drew ?_) | (with_reducible refine below_alloc_on ?_ _) | (with_reducible refine below_set_on ?_ (by first | (simp; done) | (simp; omega) | omega) _)))⟩
    first
      | exact ((HX.out.put3 _ _ _).alloc _).drew
      | exact (HX.out.put3 _ _ _).drew
/-- A number of the document's reader, whatever it meets. -/
theorem rg_num (l : List UInt8) (a W : Nat) (ok : Bool) (w1 : 1 ≤ W) (w7 : W ≤ 7) (ha : a ≤ l.length) (hl : l.length ≤ 100000) :
    ∃ n a' ok', (∀ w, Calls Try.prog 34 #[rV l a ok, .int .i64 W] w fun e w' => e = .returned (.tuple #[.int .i64 (n : Nat), rV l a' ok']) ∧ Below w.heap.size w w') ∧
      ok' = (ok && !rdW (l.drop a) W) ∧ a' ≤ l.length ∧ n < 256 ^ W ∧ (ok' = true → n = rdV (l.drop a) W ∧ l.drop a' = rdR (l.drop a) W) ∧ (ok' = false → n = 0) := by
  cases h : (ok && !rdW (l.drop a) W) with
  | false => exact ⟨0, a, false, fun w => rg_num_no l a W ok w1 w7 ha hl h w, rfl, ha, Nat.pow_pos (by omega), fun h => absurd h (by simp), fun _ => rfl⟩
  | true =>
    rw [Bool.and_eq_true] at h
    obtain ⟨rfl, h2⟩ := h
    have hw : rdW (l.drop a) W = false := by simpa using h2
    obtain ⟨hR, hle⟩ := drop_rdR l a W ha hw
    exact ⟨rdV (l.drop a) W, a + W, true, fun w => rg_num_ok l a W w1 w7 ha hl hw w, rfl, hle, rdV_lt _ _, fun _ => ⟨rfl, hR.symm⟩, fun h => absurd h (by simp)⟩
theorem nm_plain {x : Nat} (h : kdV x = 6) : nm x = x := by unfold nm; rw [nan_of_kd (by omega)]; rfl
theorem rg_real (l : List UInt8) (a : Nat) (ok : Bool) (ha : a ≤ l.length) (hl : l.length ≤ 100000) (w : World) :
    Calls Try.prog 46 #[rV l a ok] w (RgR l a ok w) := by
  cases h : (ok && !rdW (l.drop a) 1) with
  | false => exact rg_real_no l a ok ha hl h w
  | true =>
    rw [Bool.and_eq_true] at h
    obtain ⟨rfl, h2⟩ := h
    have hw : rdW (l.drop a) 1 = false := by simpa using h2
    by_cases h6 : rdV (l.drop a) 1 = 6
    · obtain ⟨hR, hle⟩ := drop_rdR l a 1 ha hw
      have K1 := Lib.hid fun w => rg_num_ok l a 1 (by omega) (by omega) ha hl hw w
      rw [h6] at K1
      obtain ⟨H, a2, o2, k2, e2, l2, v2, g2, z2⟩ := rg_num l (a + 1) 4 true (by omega) (by omega) hle hl
      obtain ⟨L, a3, o3, k3, e3, l3, v3, g3, z3⟩ := rg_num l a2 4 o2 (by omega) (by omega) l2 hl
      rw [show 256 ^ 4 = 4294967296 by decide] at v2 v3
      have hW : reW (l.drop a) = (rdW (rdR (l.drop a) 1) 4 || rdW (rdR (rdR (l.drop a) 1) 4) 4 || !decide (kdV (plX (l.drop a)) = 6)) := by unfold reW; rw [if_pos h6, hw, Bool.false_or]
      have hVV : reV (l.drop a) = if kdV (plX (l.drop a)) = 6 then plX (l.drop a) else 0 := by
        unfold reV; rw [h6, if_neg (by decide), if_neg (by decide), if_neg (by decide), if_neg (by decide), if_neg (by decide), if_pos rfl]
      have hRR : reR (l.drop a) = rdR (rdR (rdR (l.drop a) 1) 4) 4 := by unfold reR; rw [if_pos h6]
      cases o3 with
      | false =>
        have hF : (true && !reW (l.drop a)) = false := by
          rw [hW, hR]
          cases o2 with
          | false => have : rdW (l.drop (a + 1)) 4 = true := by simpa using e2.symm
                     rw [this]; rfl
          | true =>
            have g := (g2 rfl).2
            rw [← g]
            have : rdW (l.drop a2) 4 = true := by simpa using e3.symm
            rw [this, Bool.or_true]; rfl
        refine (rg_real6 l a a2 a3 H L o2 false false _ 0 rfl v2 v3 (.inl ⟨rfl, rfl, rfl⟩) K1 (Lib.hid k2) (Lib.hid k3) w).mono ?_
        rintro e w' ⟨rfl, hb⟩
        exact ⟨0, a3, false, rfl, hF.symm, l3, by omega, fun h => absurd h (by simp), hb⟩
      | true =>
        obtain ⟨rfl, c2⟩ : o2 = true ∧ rdW (l.drop a2) 4 = false := by
          have := e3.symm
          rw [Bool.and_eq_true] at this
          exact ⟨this.1, by simpa using this.2⟩
        have c1 : rdW (l.drop (a + 1)) 4 = false := by simpa using e2.symm
        obtain ⟨gH, gr⟩ := g2 rfl
        obtain ⟨gL, gr3⟩ := g3 rfl
        have hpX : plX (l.drop a) = H * 4294967296 + L := by unfold plX; rw [hR, ← gr, gH, gL]
        rw [hR, ← gr, c1, c2, Bool.false_or, Bool.false_or] at hW
        by_cases hk : kdV (H * 4294967296 + L) = 6
        · refine (rg_real6 l a a2 a3 H L true true true _ _ rfl v2 v3 (.inr (.inl ⟨rfl, hk, rfl, rfl⟩)) K1 (Lib.hid k2) (Lib.hid k3) w).mono ?_
          rintro e w' ⟨rfl, hb⟩
          refine ⟨_, a3, true, rfl, ?_, l3, by omega, fun _ => ⟨?_, ?_⟩, hb⟩
          · rw [hW, hpX, decide_eq_true hk]; rfl
          · rw [nm_plain hk, hVV, hpX, if_pos hk]
          · rw [gr3, hRR, hR, ← gr]
        · refine (rg_real6 l a a2 a3 H L true true false _ 0 rfl v2 v3 (.inr (.inr ⟨rfl, hk, rfl, rfl⟩)) K1 (Lib.hid k2) (Lib.hid k3) w).mono ?_
          rintro e w' ⟨rfl, hb⟩
          refine ⟨0, a3, false, rfl, ?_, l3, by omega, fun h => absurd h (by simp), hb⟩
          rw [hW, hpX, decide_eq_false hk]; rfl
    · exact rg_real_small l a ha hl hw h6 w
end Go.Proofs.Yteeiebopfjlffaa
