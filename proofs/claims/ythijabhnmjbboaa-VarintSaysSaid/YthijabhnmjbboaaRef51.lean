/- The document's answers for package varint. -/
import Derived.Test.YthijabhnmjbboaaLaw51
namespace Go.Proofs.Ythijabhnmjbboaa
open Go.RowKit
set_option linter.unusedVariables false
set_option linter.unusedSimpArgs false

theorem rv_zig (n : Int) (w : World) : Calls Try.prog 16 #[.int .i64 n] w fun e w' => e = .returned (.int .i64 (zgV n)) ∧ w = w' := by
  have HC := Lib.hid (fun w => ref_clamp n w)
  obtain ⟨c0, c1⟩ := clV_bd n
  unfold zgV
  generalize clV n = c at *
  by_cases h : c < 0
  · rw [if_pos h]
    have t1 := decide_eq_true h
    go_enter Try.func16, Try.ntmps16
    go_wp2_with (go_at_call 44; refine (HC.out _).mono ?_; rintro e w' ⟨rfl, rfl⟩)
    all_goals go_ret
    all_goals exact ⟨ret_i (by omega), rfl⟩
  · rw [if_neg h]
    have t1 := decide_eq_false h
    go_enter Try.func16, Try.ntmps16
    go_wp2_with (go_at_call 44; refine (HC.out _).mono ?_; rintro e w' ⟨rfl, rfl⟩)
    all_goals go_ret
    all_goals exact ⟨ret_i (by omega), rfl⟩
theorem in_forms (n : Int) : ∃ P, max n 0 = P ∧ (if n < 0 then 0 else n) = P ∧ min P 18014398509481984 = inV n ∧ (if 18014398509481984 < P then 18014398509481984 else P) = inV n := by
  refine ⟨_, rfl, ?_, rfl, ?_⟩
  · split <;> omega
  · unfold inV; split <;> omega
theorem rv_zag (n : Int) (w : World) : Calls Try.prog 18 #[.int .i64 n] w fun e w' => e = .returned (.int .i64 (zaV n)) ∧ w = w' := by
  obtain ⟨c0, c1⟩ := inV_bd n
  obtain ⟨P, p1, p2, p3, p4⟩ := in_forms n
  unfold zaV
  generalize inV n = c at *
  by_cases h : c % 2 = 0
  · rw [if_pos h]
    have t1 : (c % 2 == 1) = false := by rw [h]; rfl
    go_enter Try.func18, Try.ntmps18
    go_wp2
    all_goals go_ret
    all_goals exact ⟨ret_i (by omega), rfl⟩
  · rw [if_neg h]
    have h1 : c % 2 = 1 := by omega
    have t2 : Int.tdiv (-(c + 1)) 2 = -((c + 1) / 2) := by rw [Int.neg_tdiv, Int.tdiv_eq_ediv_of_nonneg (by omega)]
    have t3 : Int.tdiv (c + 1) 2 = (c + 1) / 2 := Int.tdiv_eq_ediv_of_nonneg (by omega)
    have t4 : wrap64 (-((c + 1) / 2)) = -((c + 1) / 2) := IntWalk.wrap64_in _ (by omega)
    go_enter Try.func18, Try.ntmps18
    go_wp2
    all_goals go_ret
    all_goals exact ⟨ret_i (by first | omega | (obtain rfl : n = c := by omega); first | simp only [t2, t4] | simp only [t3, t4]), rfl⟩
set_option maxRecDepth 100000 in
theorem rv_put (n : Int) (w : World) : Calls Try.prog 20 #[.int .i64 n] w fun e w' => e = .returned (.string (putS n)) ∧ Below w.heap.size w w' := by
  obtain ⟨c0, c1⟩ := inV_bd n
  obtain ⟨P, p1, p2, p3, p4⟩ := in_forms n
  unfold putS
  obtain ⟨N, hN⟩ := Int.eq_ofNat_of_zero_le c0
  rw [hN] at c1 p3 p4 ⊢
  rw [Int.toNat_natCast]
  have hlt : N < 128 ^ (7 + 1) := put_lt (by omega)
  obtain ⟨Y, hY⟩ : ∃ Y, putL N = Y := ⟨_, rfl⟩
  have hYl : Y.length ≤ 8 := by rw [← hY]; exact (putN_len 7 N).2
  rw [hY]
  unfold putL at hY
  have HY := Lib.hid hY
  have HL := Lib.hid hlt
  have H0 := Lib.hid (GrownB.nil w)
  clear hN c0 hY hlt
  go_enter Try.func20, Try.ntmps20
  go_wp2
  clear p1 p2 p3 p4
  go_loopg [3, 4] 7 (fun k l v wr => ∃ (m : Nat) (ys : List UInt8), l = .int .i64 m ∧ m ≤ 18014398509481984 ∧ Hid (m < 128 ^ (k + 1)) ∧ Hid (putN 7 N = ys ++ putN k m) ∧ ys.length ≤ 7 ∧ GrownB w ys v wr)
  case atStart => exact ⟨N, [], rfl, by omega, HL, Lib.hid rfl, by simp, H0.out⟩
  case round =>
    obtain ⟨m, ys, rfl, hm0, hm, hp, hys, hso⟩ := hrel
    have hsz := hso.2.2.size
    have HS := Lib.hid hso
    have HO := Lib.hid hso.2.1
    obtain ⟨B, d, rfl, hd⟩ := hso.form
    clear hso
    by_cases h : 128 ≤ m
    · obtain ⟨j, rfl, e1, e2⟩ := putN_more h hm.out
      have hp2 := hp.out
      rw [e1] at hp2
      have hl := congrArg List.length hp2
      rw [HY.out, List.length_append, List.length_cons] at hl
      have hj := (putN_len j (m / 128)).1
      have hy7 : ys.length ≤ 6 := by omega
      have HP := Lib.hid hp2
      have HE := Lib.hid e2
      have t1 : decide ((128 : Int) ≤ (m : Int)) = true := decide_eq_true (by omega)
      have hb : (UInt8.ofNat (128 + m % 128)).toNat = 128 + m % 128 := of_lt (by omega)
      clear e1 e2 hp2 hp hm hl
      go_wp2_with (at_builtin; refine app_byte rfl _ _ rfl _ rfl rfl HO.out hsz (by omega) ?_)
      intro v' w1 ho2 hg
      have hy : Value.int .u8 ((128 + (m : Int) % 128) % 256) = byteV (UInt8.ofNat (128 + m % 128)) := by
        unfold byteV; rw [hb]; congr 1; omega
      have hy2 : Value.int .u8 (128 + (m : Int) % 128) = byteV (UInt8.ofNat (128 + m % 128)) := by
        unfold byteV; rw [hb]; congr 1
      first
        | rw [hy] at ho2 hg
        | rw [hy2] at ho2 hg
      have hnext := Lib.hid (HS.out.next ho2 hg)
      clear ho2 hg hy hy2 HS HO hb
      go_wp2
      go_roundg j
      case rel => exact ⟨m / 128, ys ++ [UInt8.ofNat (128 + m % 128)], by go_num, by omega, HE, Lib.hid (by rw [HP.out]; simp), by simp; omega, hnext.out⟩
      case measure => omega
    · have e1 := putN_last (k := gk) (m := m) (by omega)
      have hp2 := hp.out
      rw [e1, HY.out] at hp2
      have HZ := Lib.hid hp2
      clear hp2
      have t1 : decide ((128 : Int) ≤ (m : Int)) = false := decide_eq_false (by omega)
      have hb : (UInt8.ofNat m).toNat = m := of_lt (by omega)
      clear hm hp e1
      go_wp2_with (at_builtin; refine app_byte rfl _ _ rfl _ rfl rfl HO.out hsz (by omega) ?_)
      intro v' w1 ho2 hg
      have hy : Value.int .u8 ((m : Int) % 256) = byteV (UInt8.ofNat m) := by
        unfold byteV; rw [hb]; congr 1; omega
      have hy2 : Value.int .u8 (m : Int) = byteV (UInt8.ofNat m) := by
        unfold byteV; rw [hb]
      first
        | rw [hy] at ho2 hg
        | rw [hy2] at ho2 hg
      have hnext := HS.out.next ho2 hg
      rw [← HZ.out] at hnext
      obtain ⟨B2, d2, rfl, hd2⟩ := hnext.form
      have hv := hnext.read
      have hb3 := hnext.2.2
      clear ho2 hg hy hy2 HS HO hb hnext
      go_wp2
      go_ret
      exact ⟨rfl, hb3⟩
/-- When a number that ends is taken. -/
theorem ok_iff {bs : List UInt8} {X k : Nat} (h : tkN 8 bs = some (X, k + 1)) : okB X (k + 1) = decide (¬ (18014398509481984 < X ∨ ((bs.getD k 0).toNat = 0 ∧ 0 < k))) := by
  obtain ⟨m1, m8, _, hlt, _, _, hz⟩ := tk_some 8 _ _ _ h
  rw [Nat.add_sub_cancel] at hz
  unfold okB
  by_cases hX : X ≤ 18014398509481984
  · have hp := put_len_is 7 X (k + 1) (put_lt hX) m1 m8
    rw [Nat.add_sub_cancel] at hp
    apply decide_eq_decide.2
    unfold putL
    rw [hp]
    constructor
    · rintro ⟨_, _, h3⟩ (h4 | ⟨h4, h5⟩)
      · omega
      · have := hz.1 h4
        rcases h3 with h3 | h3 <;> omega
    · intro h3
      refine ⟨hX, hlt, ?_⟩
      rcases Nat.eq_zero_or_pos k with hk | hk
      · exact .inl (by omega)
      · right
        rcases Nat.lt_or_ge X (128 ^ k) with h4 | h4
        · exact absurd (.inr ⟨hz.2 h4, hk⟩) h3
        · exact h4
  · rw [decide_eq_false (fun h => hX h.1), decide_eq_false (fun h => h (.inl (by omega)))]

set_option maxRecDepth 100000 in
set_option maxHeartbeats 1000000 in
theorem rv_take (s : ByteArray) (a : Int) (hs : s.size ≤ 1000000) (ha9 : a ≤ 9223372036854775807) (w : World) :
    Calls Try.prog 14 #[.string s, .int .i64 a] w fun e w' => e = .returned (.tuple #[.int .i64 (tkV s.data.toList a), .int .i64 (tkE s.data.toList a), .bool (tkO s.data.toList a)]) ∧ w = w' := by
  have hl : s.data.toList.length = s.size := Array.length_toList
  by_cases h0 : 0 ≤ a ∧ a < s.size
  · obtain ⟨A, rfl⟩ := Int.eq_ofNat_of_zero_le h0.1
    have hA : A < s.size := by omega
    have ea : tkA s.data.toList (A : Int) = tkL (s.data.toList.drop A) := by unfold tkA; rw [if_pos (by rw [hl]; omega), Int.toNat_natCast]
    have hdl : (s.data.toList.drop A).length = s.size - A := by rw [List.length_drop, hl]
    have t1 : decide ((A : Int) < 0) = false := decide_eq_false (by omega)
    have hgd : ∀ k, (h : A + k < s.size) → (s.data.toList.drop A).getD k 0 = s[A + k] := fun k h => by
      simp only [List.getD_eq_getElem?_getD, List.getElem?_drop]
      rw [List.getElem?_eq_getElem (by rw [hl]; exact h)]
      rfl
    have HE := Lib.hid ea
    have HG := Lib.hid hgd
    have HD := Lib.hid hdl
    obtain ⟨V, hV⟩ : ∃ V, tkV s.data.toList (A : Int) = V := ⟨_, rfl⟩
    obtain ⟨E, hE⟩ : ∃ E, tkE s.data.toList (A : Int) = E := ⟨_, rfl⟩
    obtain ⟨O, hO⟩ : ∃ O, tkO s.data.toList (A : Int) = O := ⟨_, rfl⟩
    rw [hV, hE, hO]
    have HV := Lib.hid hV
    have HEE := Lib.hid hE
    have HO := Lib.hid hO
    clear hV hE hO ea hgd hdl h0 hl
    generalize hbs : s.data.toList.drop A = bs at *
    clear hbs
    go_enter Try.func14, Try.ntmps14
    go_wp2
    go_loopg [7, 8, 9] 8 (fun q n u i wr => ∃ (k x U : Nat), k ≤ 8 ∧ A + k ≤ s.size ∧ q = 8 - k ∧ n = .int .i64 x ∧ u = .int .i64 U ∧ i = .int .i64 ((A + k : Nat) : Int) ∧ Hid (128 ^ k = U) ∧ x < U ∧ Hid (tkN 8 bs = (tkN (8 - k) (bs.drop k)).map fun p => (x + 128 ^ k * p.1, k + p.2)) ∧ w = wr)
    case atStart => exact ⟨0, 0, 1, by omega, by omega, rfl, rfl, rfl, rfl, Lib.hid rfl, by omega, Lib.hid (by simp), rfl⟩
    case round =>
      obtain ⟨k, x, U, hk, hks, rfl, rfl, rfl, rfl, hU, hx, ht, rfl⟩ := hrel
      have hUb : U ≤ 72057594037927936 := by
        rw [← hU.out]
        have h1 : (128 : Nat) ^ k ≤ 128 ^ 8 := Nat.pow_le_pow_right (by omega) hk
        have h2 : (128 : Nat) ^ 8 = 72057594037927936 := by decide
        omega
      have i0 : IntKind.i64.wrap (((A + k : Nat) : Int) - (A : Int)) = (k : Int) := by rw [show ((A + k : Nat) : Int) - (A : Int) = (k : Int) by omega]; exact IntWalk.i64_in _ (by omega)
      by_cases hlt : A + k < s.size
      · have t2 : decide (((A + k : Nat) : Int) < (s.size : Int)) = true := decide_eq_true (by omega)
        by_cases h8 : k < 8
        · have t3 : decide ((k : Int) < 8) = true := decide_eq_true (by omega)
          have hg := HG.out k hlt
          obtain ⟨g1, g2⟩ := tk_go (k := k) h8 ht.out (by rw [HD.out]; omega)
          rw [hg, hU.out] at g1 g2
          have hok : ∀ X, tkN 8 bs = some (X, k + 1) → okB X (k + 1) = decide (¬ (18014398509481984 < X ∨ (s[A + k].toNat = 0 ∧ 0 < k))) := fun X h => by
            have := ok_iff h; rwa [hg] at this
          have HOK := Lib.hid hok
          have G1 := Lib.hid g1
          have G2 := Lib.hid g2
          have hb := UInt8.toNat_lt s[A + k]
          have hm := Nat.mod_lt s[A + k].toNat (show 0 < 128 by omega)
          have hmul : U * (s[A + k].toNat % 128) ≤ U * 127 := Nat.mul_le_mul_left _ (by omega)
          have hU7 : U ≤ 562949953421312 := by
            rw [← hU.out]
            have h1 : (128 : Nat) ^ k ≤ 128 ^ 7 := Nat.pow_le_pow_right (by omega) (by omega)
            have h2 : (128 : Nat) ^ 7 = 562949953421312 := by decide
            omega
          obtain ⟨M, hM⟩ : ∃ M, U * (s[A + k].toNat % 128) = M := ⟨_, rfl⟩
          have hM2 : ((s[A + k].toNat : Int) % 128) * (U : Int) = (M : Int) := by rw [← hM, Int.mul_comm]; push_cast; rfl
          rw [hM] at hmul
          have HM := Lib.hid hM
          have i1 : IntKind.i64.wrap (M : Int) = (M : Int) := IntWalk.i64_in _ (by omega)
          have i2 : IntKind.i64.wrap ((x : Int) + M) = (x : Int) + M := IntWalk.i64_in _ (by omega)
          have i3 : IntKind.i64.wrap ((U : Int) * 128) = (U : Int) * 128 := IntWalk.i64_in _ (by omega)
          clear hM hg g1 g2 hok ht
          by_cases hd : s[A + k].toNat < 128
          · have h8e := G1.out hd
            rw [HM.out] at h8e
            obtain ⟨e1, e2, e3⟩ := tk_ends HE.out h8e
            rw [HV.out] at e1
            rw [HEE.out] at e2
            rw [HO.out] at e3
            rw [HOK.out _ h8e] at e1 e2 e3
            by_cases hbig : 18014398509481984 < x + M
            · rw [decide_eq_false (fun h => h (.inl hbig))] at e1 e2 e3
              simp only [if_false, Bool.false_eq_true] at e1 e2
              subst e1
              subst e2
              subst e3
              have t5 : decide ((18014398509481984 : Int) < (x : Int) + (M : Int)) = true := decide_eq_true (by omega)
              clear h8e
              go_wp2
              go_ret3
              exact ⟨rfl, by trivial⟩
            · have t5 : decide ((18014398509481984 : Int) < (x : Int) + (M : Int)) = false := decide_eq_false (by omega)
              by_cases hz : s[A + k].toNat = 0 ∧ 0 < k
              · rw [decide_eq_false (fun h => h (.inr hz))] at e1 e2 e3
                simp only [if_false, Bool.false_eq_true] at e1 e2
                subst e1
                subst e2
                subst e3
                obtain ⟨hz1, hz2⟩ := hz
                have t6 : decide ((A : Int) < ((A + k : Nat) : Int)) = true := decide_eq_true (by omega)
                clear h8e
                go_wp2
                go_ret3
                exact ⟨rfl, by trivial⟩
              · rw [decide_eq_true (show ¬ (18014398509481984 < x + M ∨ (s[A + k].toNat = 0 ∧ 0 < k)) from fun h => h.elim hbig hz)] at e1 e2 e3
                simp only [if_true] at e1 e2
                clear h8e
                rcases (by omega : s[A + k].toNat ≠ 0 ∨ (s[A + k].toNat = 0 ∧ k = 0)) with hz2 | ⟨hz2, hk0⟩
                · have t6 : ((s[A + k].toNat : Int) == 0) = false := by simp; omega
                  go_wp2
                  go_ret3
                  exact ⟨by rw [e1, e2, e3]; simp <;> omega, by trivial⟩
                · have t6 : ((s[A + k].toNat : Int) == 0) = true := by rw [hz2]; rfl
                  have t7 : decide ((A : Int) < ((A + k : Nat) : Int)) = false := decide_eq_false (by omega)
                  have t8 : decide ((A : Int) < (A : Int) + (k : Int)) = false := decide_eq_false (by omega)
                  clear hk0 hz2
                  go_wp2
                  go_ret3
                  exact ⟨by rw [e1, e2, e3]; simp <;> omega, by trivial⟩
          · have t5 : decide ((s[A + k].toNat : Int) < 128) = false := decide_eq_false (by omega)
            go_wp2
            go_roundg (8 - (k + 1))
            case rel => exact ⟨k + 1, x + M, U * 128, by omega, by omega, rfl, by go_num, by go_num, by go_num, Lib.hid (by rw [Nat.pow_succ, hU.out]), by omega, Lib.hid (by rw [G2.out (by omega), HM.out]), by trivial⟩
            case measure => omega
        · obtain rfl : k = 8 := by omega
          obtain ⟨e1, e2, e3⟩ := tk_none HE.out (tk_end ht.out (.inl rfl))
          rw [HV.out] at e1
          rw [HEE.out] at e2
          rw [HO.out] at e3
          subst e1
          subst e2
          subst e3
          clear ht
          go_wp2
          go_ret3
          exact ⟨rfl, by trivial⟩
      · have t2 : decide (((A + k : Nat) : Int) < (s.size : Int)) = false := decide_eq_false (by omega)
        obtain ⟨e1, e2, e3⟩ := tk_none HE.out (tk_end ht.out (.inr (by rw [HD.out]; omega)))
        rw [HV.out] at e1
        rw [HEE.out] at e2
        rw [HO.out] at e3
        subst e1
        subst e2
        subst e3
        clear ht
        go_wp2
        go_ret3
        exact ⟨rfl, by trivial⟩
  · have ea : tkA s.data.toList a = none := by unfold tkA; rw [if_neg (by rw [hl]; omega)]
    rw [show tkV s.data.toList a = 0 by unfold tkV; rw [ea], show tkE s.data.toList a = 0 by unfold tkE; rw [ea], show tkO s.data.toList a = false by unfold tkO; rw [ea]; rfl]
    rcases (by omega : a < 0 ∨ (0 ≤ a ∧ (s.size : Int) ≤ a)) with h | ⟨h, h2⟩
    · have t1 := decide_eq_true h
      clear ea hl h0
      go_enter Try.func14, Try.ntmps14
      go_wp2
      all_goals go_ret3
      all_goals exact ⟨rfl, rfl⟩
    · have t1 : decide (a < 0) = false := decide_eq_false (by omega)
      have t2 : decide (a < (s.size : Int)) = false := decide_eq_false (by omega)
      clear ea hl h0
      go_enter Try.func14, Try.ntmps14
      go_wp2
      go_loopw [9] (fun i wr => i = .int .i64 a ∧ w = wr) (fun _ _ => 0)
      case atStart => exact ⟨rfl, rfl⟩
      case round =>
        obtain ⟨rfl, rfl⟩ := hrel
        go_wp2
        go_ret3
        exact ⟨rfl, rfl⟩
end Go.Proofs.Ythijabhnmjbboaa
