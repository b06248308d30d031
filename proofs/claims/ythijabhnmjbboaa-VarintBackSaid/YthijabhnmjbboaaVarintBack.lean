/- VarintBack holds of every number, and any bytes ahead and behind: what is put is taken, wherever it stands, and nothing else is. No condition. -/
import Derived.Test.YthijabhnmjbboaaLaw51
import Derived.Test.YthijabhnmjbboaaLift
import Derived.Test.YthijabhnmjbboaaCalm
import Derived.ChangeMaps5
namespace Go.Proofs.Ythijabhnmjbboaa.varintBack
open Go.ChangeShapes Go.WideShapes Go.ChangeAt Go.RowKit
set_option linter.unusedVariables false
set_option linter.unusedSimpArgs false
attribute [local go_sem] Near.cell Near.frozen

/-- What is put is found, wherever it stands. -/
theorem found (s t : ByteArray) (z : Nat) (hz : z ≤ 18014398509481984) : tkA (s ++ putS (z : Int) ++ t).data.toList (s.size : Int) = some (z, (putS (z : Int)).size) := by
  have e : (s ++ putS (z : Int) ++ t).data.toList = s.data.toList ++ (putL z ++ t.data.toList) := by
    rw [ByteArray.data_append, ByteArray.data_append, Array.toList_append, Array.toList_append, putS_list, show inV (z : Int) = z by unfold inV; omega, Int.toNat_natCast, List.append_assoc]
  have hl : s.data.toList.length = s.size := Array.length_toList
  have hp := (putN_len 7 z).1
  have ht := tk_put 7 z t.data.toList (put_lt hz)
  rw [e]
  unfold tkA
  rw [if_pos (by rw [List.length_append, List.length_append, hl]; unfold putL; omega), Int.toNat_natCast, List.drop_append_of_le_length (by omega), List.drop_of_length_le (by omega), List.nil_append]
  unfold tkL putL
  rw [ht, putS_size hz]
  simp only [Option.bind_some]
  simp [hz, putL]
/-- What is taken from the beginning is put as it stands. -/
theorem back (t : ByteArray) : (tkO t.data.toList 0 = false ∧ tkV t.data.toList 0 = 0 ∧ tkE t.data.toList 0 = 0) ∨
    (∃ k m : Nat, tkO t.data.toList 0 = true ∧ tkV t.data.toList 0 = (k : Int) ∧ tkE t.data.toList 0 = (m : Int) ∧ m ≤ t.size ∧ (t.extract 0 m).toList = (putS (k : Int)).toList) := by
  have hl : t.data.toList.length = t.size := Array.length_toList
  unfold tkO tkV tkE
  cases h : tkA t.data.toList 0 with
  | none => exact .inl ⟨rfl, rfl, rfl⟩
  | some p =>
    obtain ⟨k, m⟩ := p
    right
    unfold tkA at h
    split at h
    · unfold tkL at h
      rw [show ((0 : Int)).toNat = 0 from rfl, List.drop_zero] at h
      cases h8 : tkN 8 t.data.toList with
      | none => rw [h8] at h; simp at h
      | some q =>
        rw [h8] at h
        simp only [Option.bind_some] at h
        split at h
        · rename_i hc
          cases h
          obtain ⟨c1, c2⟩ := hc
          obtain ⟨_, _, hm, _⟩ := tk_some 8 _ _ _ h8
          have hp := put_tk 7 _ _ _ h8 c2
          rw [hl] at hm
          refine ⟨k, m, rfl, rfl, by simp, hm, ?_⟩
          rw [putS_toList, show inV (k : Int) = k by simp only at c1; unfold inV; omega, Int.toNat_natCast, ByteArray.toList_eq, ByteArray.data_extract]
          simp only [Array.toList_extract]
          simpa [putL] using hp
        · cases h
    · cases h
theorem tk_of {l : List UInt8} {a : Int} {n m : Nat} (h : tkA l a = some (n, m)) : tkV l a = n ∧ tkE l a = a + m ∧ tkO l a = true := by
  unfold tkV tkE tkO; rw [h]; exact ⟨rfl, rfl, rfl⟩

set_option maxRecDepth 100000 in
set_option maxHeartbeats 4000000 in
theorem some_ (n : Int) (n0 : -9007199254740992 ≤ n) (n1 : n ≤ 9007199254740992) (s t : ByteArray) (hs : s.size ≤ 50) (ht : t.size ≤ 50) (W : World) :
    Calls Try.prog 4 #[.int .i64 n, .string s, .string t] W fun e W' => e = .returned (.bool true) ∧ Below W.heap.size W W' := by
  have A : Below W.heap.size W W := Below.refl _ _
  obtain ⟨za, z0, z1⟩ := za_zg n0 n1
  have HZ := Lib.hid (fun w => vr_zig n w)
  obtain ⟨Z, hZ⟩ := Int.eq_ofNat_of_zero_le z0
  rw [hZ] at za z0 z1 HZ
  have HA := Lib.hid (fun w => vr_zag (Z : Int) w)
  rw [za] at HA
  have HP := fun w => vr_put (Z : Int) w
  have hf := found s t Z (by omega)
  have hp8 : (putS (Z : Int)).size ≤ 8 := by rw [putS_size (by omega)]; exact (putN_len 7 Z).2
  have hsz : (s ++ putS (Z : Int) ++ t).size = s.size + (putS (Z : Int)).size + t.size := by rw [ByteArray.size_append, ByteArray.size_append]
  have HT := fun w => vr_take (s ++ putS (Z : Int) ++ t) (s.size : Int) (by omega) w
  obtain ⟨e1, e2, e3⟩ := tk_of hf
  rw [e1, e2, e3] at HT
  generalize putS (Z : Int) = P at *
  have HP := Lib.hid HP
  have HT := Lib.hid HT
  have HU := fun w => vr_take t 0 (by omega) w
  have t0 : decide (50 < (s.size : Int)) = false := decide_eq_false (by omega)
  have t1 : decide (50 < (t.size : Int)) = false := decide_eq_false (by omega)
  have t2 : decide (n < -9007199254740992) = false := decide_eq_false (by omega)
  have t3 : decide (9007199254740992 < n) = false := decide_eq_false (by omega)
  have t4 : decide (8 < (P.size : Int)) = false := decide_eq_false (by omega)
  have i1 : IntKind.i64.wrap ((s.size : Int) + P.size) = (s.size : Int) + P.size := IntWalk.i64_in _ (by omega)
  have u1 : (n != n) = false := by simp
  have u2 : ((Z : Int) != (Z : Int)) = false := by simp
  have u3 : ((s.size : Int) + P.size != (s.size : Int) + P.size) = false := by simp
  clear hf e1 e2 e3 hZ za
  rcases back t with ⟨b1, b2, b3⟩ | ⟨k, m, b1, b2, b3, hm, hx⟩
  · rw [b1, b2, b3] at HU
    have HU := Lib.hid HU
    clear b1 b2 b3
    go_enter Try.func4, Try.ntmps4
    go_wp2_with ((go_at_call 15; refine (HZ.out _).mono ?_; rintro e w' ⟨rfl, rfl⟩))
    refine (HP.out _).mono ?_
    rintro e w1 ⟨rfl, hb⟩
    replace A : Below W.heap.size W w1 := by (refine below_call ?_ hb; (repeat (first | (with_reducible exact Below.refl _ _) | (with_reducible assumption) | (with_reducible refine Near.up _ ?_) | (with_reducible refine Below.drew ?_) | (with_reducible refine below_alloc_on ?_ _) | (with_reducible refine below_set_on ?_ (by first | (simp; done) | (simp; omega) | omega) _))))
    clear hb
    have z_w1 : W.heap.size ≤ w1.heap.size := A.size
    go_wp2_with (fail)
    refine (HT.out _).mono ?_
    rintro e w2 ⟨rfl, hb⟩
    replace A : Below W.heap.size W w2 := by (refine below_call ?_ hb; (repeat (first | (with_reducible exact Below.refl _ _) | (with_reducible assumption) | (with_reducible refine Near.up _ ?_) | (with_reducible refine Below.drew ?_) | (with_reducible refine below_alloc_on ?_ _) | (with_reducible refine below_set_on ?_ (by first | (simp; done) | (simp; omega) | omega) _))))
    clear hb
    have z_w2 : W.heap.size ≤ w2.heap.size := A.size
    go_wp2_with ((go_at_call 17; refine (HA.out _).mono ?_; rintro e w' ⟨rfl, rfl⟩))
    refine (HU.out _).mono ?_
    rintro e w3 ⟨rfl, hb⟩
    replace A : Below W.heap.size W w3 := by (refine below_call ?_ hb; (repeat (first | (with_reducible exact Below.refl _ _) | (with_reducible assumption) | (with_reducible refine Near.up _ ?_) | (with_reducible refine Below.drew ?_) | (with_reducible refine below_alloc_on ?_ _) | (with_reducible refine below_set_on ?_ (by first | (simp; done) | (simp; omega) | omega) _))))
    clear hb
    have z_w3 : W.heap.size ≤ w3.heap.size := A.size
    go_wp2
    refine wp_region_calm (by kernel_rfl) (by kernel_rfl) ?_
    repeat (go_big_quiet_step (((go_at_call 12; exact calm_of _ (law51_awake _)))))
    refine wpQuiet_nil ?_
    intro _ hw'
    obtain ⟨u, rfl⟩ := hw'
    go_wp2
    all_goals go_ret
    all_goals exact ⟨rfl, u.up A⟩
  · rw [b1, b2, b3] at HU
    have HU := Lib.hid HU
    have HK := fun w => vr_put (k : Int) w
    generalize putS (k : Int) = K at *
    have HK := Lib.hid HK
    have hx2 : ((t.extract 0 m).toList == K.toList) = true := by rw [hx]; simp
    have m1 : min (m : Int) (t.size : Int) = (m : Int) := by omega
    have m2 : max (m : Int) 0 = (m : Int) := by omega
    have m3 : (if (m : Int) < 0 then 0 else (m : Int)) = (m : Int) := by split <;> omega
    have m4 : (if (t.size : Int) < (m : Int) then (t.size : Int) else (m : Int)) = (m : Int) := by split <;> omega
    clear b1 b2 b3 hx
    go_enter Try.func4, Try.ntmps4
    go_wp2_with ((go_at_call 15; refine (HZ.out _).mono ?_; rintro e w' ⟨rfl, rfl⟩))
    refine (HP.out _).mono ?_
    rintro e w1 ⟨rfl, hb⟩
    replace A : Below W.heap.size W w1 := by (refine below_call ?_ hb; (repeat (first | (with_reducible exact Below.refl _ _) | (with_reducible assumption) | (with_reducible refine Near.up _ ?_) | (with_reducible refine Below.drew ?_) | (with_reducible refine below_alloc_on ?_ _) | (with_reducible refine below_set_on ?_ (by first | (simp; done) | (simp; omega) | omega) _))))
    clear hb
    have z_w1 : W.heap.size ≤ w1.heap.size := A.size
    go_wp2_with (fail)
    refine (HT.out _).mono ?_
    rintro e w2 ⟨rfl, hb⟩
    replace A : Below W.heap.size W w2 := by (refine below_call ?_ hb; (repeat (first | (with_reducible exact Below.refl _ _) | (with_reducible assumption) | (with_reducible refine Near.up _ ?_) | (with_reducible refine Below.drew ?_) | (with_reducible refine below_alloc_on ?_ _) | (with_reducible refine below_set_on ?_ (by first | (simp; done) | (simp; omega) | omega) _))))
    clear hb
    have z_w2 : W.heap.size ≤ w2.heap.size := A.size
    go_wp2_with ((go_at_call 17; refine (HA.out _).mono ?_; rintro e w' ⟨rfl, rfl⟩))
    refine (HU.out _).mono ?_
    rintro e w3 ⟨rfl, hb⟩
    replace A : Below W.heap.size W w3 := by (refine below_call ?_ hb; (repeat (first | (with_reducible exact Below.refl _ _) | (with_reducible assumption) | (with_reducible refine Near.up _ ?_) | (with_reducible refine Below.drew ?_) | (with_reducible refine below_alloc_on ?_ _) | (with_reducible refine below_set_on ?_ (by first | (simp; done) | (simp; omega) | omega) _))))
    clear hb
    have z_w3 : W.heap.size ≤ w3.heap.size := A.size
    go_wp2
    refine wp_region_calm (by kernel_rfl) (by kernel_rfl) ?_
    repeat (go_big_quiet_step ((first | ((go_at_call 19; exact calm_of _ (HK.out _))) | ((go_at_call 12; exact calm_of _ (law51_awake _))))))
    refine wpQuiet_nil ?_
    intro _ hw'
    obtain ⟨u, rfl⟩ := hw'
    go_wp2
    all_goals go_ret
    all_goals exact ⟨rfl, u.up A⟩
theorem walk (W : World) (n : Int) (wn : (Lit.int .i64 n).wf = true) (s : ByteArray) (hs : s.size ≤ maxLen) (t : ByteArray) (ht : t.size ≤ maxLen) :
    Calls Try.prog 4 #[.int .i64 n, .string s, .string t] W fun e W' => e = .returned (.bool true) ∧ Below W.heap.size W W' := by
  have A : Below W.heap.size W W := Below.refl _ _
  clear wn hs ht
  rcases (by omega : 50 < s.size ∨ (s.size ≤ 50 ∧ 50 < t.size) ∨ (s.size ≤ 50 ∧ t.size ≤ 50 ∧ n < -9007199254740992) ∨ (s.size ≤ 50 ∧ t.size ≤ 50 ∧ -9007199254740992 ≤ n ∧ 9007199254740992 < n) ∨ (s.size ≤ 50 ∧ t.size ≤ 50 ∧ -9007199254740992 ≤ n ∧ n ≤ 9007199254740992)) with h | ⟨h, h2⟩ | ⟨h, h2, h3⟩ | ⟨h, h2, h3, h4⟩ | ⟨h, h2, h3, h4⟩
  · have t0 : decide (50 < (s.size : Int)) = true := decide_eq_true (by omega)
    go_enter Try.func4, Try.ntmps4
    go_wp2_with (fail)
    refine (law51_awake _).mono ?_
    rintro e w1 ⟨rfl, hb⟩
    replace A : Below W.heap.size W w1 := by (refine below_call ?_ hb; (repeat (first | (with_reducible exact Below.refl _ _) | (with_reducible assumption) | (with_reducible refine Near.up _ ?_) | (with_reducible refine Below.drew ?_) | (with_reducible refine below_alloc_on ?_ _) | (with_reducible refine below_set_on ?_ (by first | (simp; done) | (simp; omega) | omega) _))))
    clear hb
    have z_w1 : W.heap.size ≤ w1.heap.size := A.size
    go_wp2
    all_goals go_ret
    all_goals exact ⟨rfl, A⟩
  · have t0 : decide (50 < (s.size : Int)) = false := decide_eq_false (by omega)
    have t1 : decide (50 < (t.size : Int)) = true := decide_eq_true (by omega)
    go_enter Try.func4, Try.ntmps4
    go_wp2_with (fail)
    refine (law51_awake _).mono ?_
    rintro e w1 ⟨rfl, hb⟩
    replace A : Below W.heap.size W w1 := by (refine below_call ?_ hb; (repeat (first | (with_reducible exact Below.refl _ _) | (with_reducible assumption) | (with_reducible refine Near.up _ ?_) | (with_reducible refine Below.drew ?_) | (with_reducible refine below_alloc_on ?_ _) | (with_reducible refine below_set_on ?_ (by first | (simp; done) | (simp; omega) | omega) _))))
    clear hb
    have z_w1 : W.heap.size ≤ w1.heap.size := A.size
    go_wp2
    all_goals go_ret
    all_goals exact ⟨rfl, A⟩
  · have t0 : decide (50 < (s.size : Int)) = false := decide_eq_false (by omega)
    have t1 : decide (50 < (t.size : Int)) = false := decide_eq_false (by omega)
    have t2 := decide_eq_true h3
    go_enter Try.func4, Try.ntmps4
    go_wp2_with (fail)
    refine (law51_awake _).mono ?_
    rintro e w1 ⟨rfl, hb⟩
    replace A : Below W.heap.size W w1 := by (refine below_call ?_ hb; (repeat (first | (with_reducible exact Below.refl _ _) | (with_reducible assumption) | (with_reducible refine Near.up _ ?_) | (with_reducible refine Below.drew ?_) | (with_reducible refine below_alloc_on ?_ _) | (with_reducible refine below_set_on ?_ (by first | (simp; done) | (simp; omega) | omega) _))))
    clear hb
    have z_w1 : W.heap.size ≤ w1.heap.size := A.size
    go_wp2
    all_goals go_ret
    all_goals exact ⟨rfl, A⟩
  · have t0 : decide (50 < (s.size : Int)) = false := decide_eq_false (by omega)
    have t1 : decide (50 < (t.size : Int)) = false := decide_eq_false (by omega)
    have t2 : decide (n < -9007199254740992) = false := decide_eq_false (by omega)
    have t3 := decide_eq_true h4
    go_enter Try.func4, Try.ntmps4
    go_wp2_with (fail)
    refine (law51_awake _).mono ?_
    rintro e w1 ⟨rfl, hb⟩
    replace A : Below W.heap.size W w1 := by (refine below_call ?_ hb; (repeat (first | (with_reducible exact Below.refl _ _) | (with_reducible assumption) | (with_reducible refine Near.up _ ?_) | (with_reducible refine Below.drew ?_) | (with_reducible refine below_alloc_on ?_ _) | (with_reducible refine below_set_on ?_ (by first | (simp; done) | (simp; omega) | omega) _))))
    clear hb
    have z_w1 : W.heap.size ≤ w1.heap.size := A.size
    go_wp2
    all_goals go_ret
    all_goals exact ⟨rfl, A⟩
  · exact some_ n h3 h4 s t h h2 W

set_option maxRecDepth 100000 in
theorem lifted (os : Os) (started : os.Started) (H : Type) (enc : TypeId × Value → H) :
    ReturnsInHanded {} Try.checked os 4 .any (Rows.varintBackSpec.pre6 enc Try.prog Try.f4 Rows.varintBackRow.domain false) (Rows.varintBackSpec.post enc Try.prog Try.f4 false true false false) := by
  refine law_lift started (by kernel_rfl) Try.func4 rfl rfl ?_ (by kernel_rfl)
    (ChangeSpec.witness6 (enc := enc) (C := Try.checked) false ⟨#[], #[.int .i64 0, .string ⟨#[]⟩, .string ⟨#[]⟩], []⟩ 8 (by kernel_rfl) (by kernel_rfl) (by kernel_rfl) (by kernel_rfl)) ?_
  · intro ds hl
    match ds, hl with
    | [_, _, _], _ => exact ⟨rfl, rfl, rfl⟩
  · intro W base args ds p hval hA hlt hwt
    rw [Try.params4] at hA hval hwt
    obtain ⟨v0, vs0, d0, ds0, p0, q0, hargs, rfl, rfl, h0, r0⟩ := trodAll_cons hA
    obtain ⟨v1, vs1, d1, ds1, p1, q1, rfl, rfl, rfl, h1, r1⟩ := trodAll_cons r0
    obtain ⟨v2, vs2, d2, ds2, p2, q2, rfl, rfl, rfl, h2, r2⟩ := trodAll_cons r1
    obtain ⟨rfl, rfl, rfl⟩ := trodAll_nil r2
    obtain rfl : args = #[v0, v1, v2] := by cases args; simp_all
    obtain ⟨a0, rfl, rfl, rfl, w0⟩ := open_int Try.underlying3 (hval 0 3 v0 rfl rfl) h0
    obtain ⟨a1, rfl, rfl, rfl, w1⟩ := Go.ChangeMaps.open_string Try.underlying9 (hval 1 9 v1 rfl rfl) h1
    obtain ⟨a2, rfl, rfl, rfl, w2⟩ := Go.ChangeMaps.open_string Try.underlying9 (hval 2 9 v2 rfl rfl) h2
    exact walk W a0 w0 a1 w1 a2 w2

theorem over : Rows.varintBackRow.holds Try.pinned (OpenSpec.ofChange Rows.varintBackSpec) :=
  OpenClaim.holds_of_wide 4 Try.f4 rfl rfl rfl rfl rfl rfl rfl ⟨rfl, rfl, rfl, rfl, rfl⟩ rfl rfl rfl rfl rfl (by kernel_rfl) Try.func4 (by kernel_rfl)
    (of_decide_eq_true (by kernel_rfl)) (by unfold Func.isWrapper; first | (rw [if_pos (by decide +kernel)]; kernel_rfl) | (rw [if_neg (by decide +kernel)]; exact ⟨rfl, rfl⟩))
    (fun os started H enc _ => lifted os started H enc)

theorem proved : Rows.VarintBackSaid := over
#print axioms proved
end Go.Proofs.Ythijabhnmjbboaa.varintBack
