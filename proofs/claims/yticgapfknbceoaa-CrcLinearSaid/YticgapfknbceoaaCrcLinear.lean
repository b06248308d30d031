/- CrcLinear holds of every two texts and every two sums to go on from: the sum is linear. No condition. -/
import Derived.Test.YticgapfknbceoaaLaw6
import Derived.Test.YticgapfknbceoaaArr
import Derived.Test.YticgapfknbceoaaBytes
namespace Go.Proofs.Yticgapfknbceoaa.crcLinear
open Go.ChangeShapes Go.WideShapes Go.ChangeAt Go.RowKit
set_option linter.unusedVariables false

theorem zip_step (l m : List UInt8) (k : Nat) (hk : k < l.length) (hm : k < m.length) : (List.zipWith (· ^^^ ·) l m).take (k + 1) = (List.zipWith (· ^^^ ·) l m).take k ++ [l[k] ^^^ m[k]] := by
  rw [List.take_add_one, List.getElem?_zipWith, List.getElem?_eq_getElem hk, List.getElem?_eq_getElem hm]
  rfl

set_option maxRecDepth 100000 in
theorem walk (w : World) (s : ByteArray) (hs : s.size ≤ maxLen) (t : ByteArray) (ht : t.size ≤ maxLen) (c : Int) (wc : (Lit.int .u16 c).wf = true) (d : Int) (wd : (Lit.int .u16 d).wf = true) :
    Calls Try.prog 6 #[.string s, .string t, .agg #[.int .u16 c, .int .u16 d]] w fun e w' => e = .returned (.bool true) ∧ Below w.heap.size w w' := by
  have c0 : 0 ≤ c ∧ c ≤ 65535 := by simp only [Lit.wf, IntKind.min, IntKind.max, IntKind.signed, IntKind.bits, Bool.and_eq_true] at wc; simpa using wc
  have d0 : 0 ≤ d ∧ d ≤ 65535 := by simp only [Lit.wf, IntKind.min, IntKind.max, IntKind.signed, IntKind.bits, Bool.and_eq_true] at wd; simpa using wd
  obtain ⟨p, rfl⟩ := Int.eq_ofNat_of_zero_le c0.1
  obtain ⟨q, rfl⟩ := Int.eq_ofNat_of_zero_le d0.1
  have hp : p < 65536 := by omega
  have hq : q < 65536 := by omega
  clear c0 d0 wc wd hs ht
  obtain ⟨w1, hw1⟩ : ∃ w1, w.alloc (.cells #[.int .u16 p, .int .u16 q] 34) = w1 := ⟨_, rfl⟩
  have A1 : At w w1 := hw1 ▸ (Below.refl _ _).alloc (Nat.le_refl _) _
  by_cases hne : s.size = t.size
  · by_cases hl : 300 < s.size
    · go_enter Try.func6, Try.ntmps6
      go_wp2_with (first
    | (go_at_call 7; refine (law6_awake _ _ (by assumption)).mono ?_; rintro e w' ⟨rfl, hb⟩))
      all_goals go_ret
      all_goals exact ⟨rfl, by assumption⟩
    · have C0 : w1.cell? ⟨w.heap.size, 0, none⟩ = some (.int .u16 p) := by rw [← hw1]; rw [World.cell?_alloc_at _ _ _ _ rfl]; rfl
      have C1 : w1.cell? ⟨w.heap.size, 1, none⟩ = some (.int .u16 q) := by rw [← hw1]; rw [World.cell?_alloc_at _ _ _ _ rfl]; rfl
      have hlt1 : w.heap.size < w1.heap.size := by rw [← hw1]; simp
      obtain ⟨n, hn⟩ : ∃ n, s.size = n := ⟨_, rfl⟩
      have hm : t.size = n := by omega
      clear hne
      rw [hn] at hl
      have LS := Lib.hid (show s.data.toList.length = n by rw [Array.length_toList]; exact hn)
      have LT := Lib.hid (show t.data.toList.length = n by rw [Array.length_toList]; exact hm)
      obtain ⟨Z, hZ⟩ : ∃ Z, List.zipWith (· ^^^ ·) s.data.toList t.data.toList = Z := ⟨_, rfl⟩
      have HZ := Lib.hid hZ
      have LZ := Lib.hid (show Z.length = n by rw [← hZ, List.length_zipWith, LS.out, LT.out, Nat.min_self])
      have H0 := Lib.hid (GrownB.nil w1)
      have CC0 := Lib.hid C0
      have CC1 := Lib.hid C1
      clear hZ C0 C1
      go_enter Try.func6, Try.ntmps6
      go_wp2
      go_loopw [7, 22] (fun v i wr => ∃ k : Nat, k ≤ n ∧ i = .int .i64 k ∧ GrownB w1 (Z.take k) v wr) (fun _ i _ => n - (intOf i).toNat)
      case atStart => exact ⟨0, Nat.zero_le _, rfl, H0.out⟩
      case round =>
        obtain ⟨k, hk, rfl, hso⟩ := hrel
        by_cases hlt : k < n
        · have h1 : k < s.size := by omega
          have h2 : k < t.size := by omega
          have hx : Value.int .u8 (bits .xor .u8 (s[k].toNat : Int) (t[k].toNat : Int)) = byteV (s[k] ^^^ t[k]) := by
            unfold byteV; rw [u8_xor_nat _ _ (UInt8.toNat_lt _) (UInt8.toNat_lt _), UInt8.toNat_xor]
          have HXV := Lib.hid hx
          clear hx
          have hst := zip_step s.data.toList t.data.toList k (by rw [LS.out]; exact hlt) (by rw [LT.out]; exact hlt)
          rw [HZ.out] at hst
          have HX := Lib.hid hst
          clear hst
          have hlen : (Z.take k).length = k := by rw [List.length_take, LZ.out]; omega
          generalize Z.take k = ys at *
          have hsz := hso.2.2.size
          obtain ⟨B, d, rfl, hd⟩ := hso.form
          rw [hlen] at hd
          have HS := Lib.hid hso
          have HO := Lib.hid (show wr.drew.ownsRow w1.heap.size 5 1 (.slice B k d) k (ys.map byteV) from by have := hso.2.1; rw [hlen] at this; exact this)
          have hK : ∀ (v' : Value) (w2 : World), w2.ownsRow w1.heap.size 5 1 v' (k + 1) (ys.map byteV ++ [.int .u8 (bits .xor .u8 (s[k].toNat : Int) (t[k].toNat : Int))]) →
              (wr.drew.alloc (.cells #[.int .u8 (bits .xor .u8 (s[k].toNat : Int) (t[k].toNat : Int))] 5)).grownBy w2 (Value.slice B k d).ownBlock → GrownB w1 (Z.take (k + 1)) v' w2 := by
            intro v' w2 ho hg
            rw [HX.out]
            rw [HXV.out] at ho
            have h0 := hso.drew
            rw [hlen] at h0
            exact h0.next (by rw [hlen]; exact ho) hg
          have HK := Lib.hid hK
          rw [hlen]
          clear hso hlen hK
          go_wp2
          go_region_law (refine step_app_one (w := wr.drew) rfl (.tmp 25) (.tmp 33) 35 rfl 5 (.int .u8 0) 1 Try.underlying35 byte_info rfl (.int .u8 (bits .xor .u8 (s[k].toNat : Int) (t[k].toNat : Int))) rfl rfl rfl HO.out hsz (by omega) (by omega) ?_; intro v' w2 ho hg; have hnext := Lib.hid (HK.out v' w2 ho hg); clear ho hg)
          all_goals
            go_wp2
            go_roundw
            case rel => exact ⟨k + 1, by omega, by go_num, hnext.out⟩
            case measure => simp [intOf]; omega
        · obtain rfl : k = n := by omega
          have e3 : Z.take k = Z := List.take_of_length_le (by have := LZ.out; omega)
          rw [e3] at hso
          clear e3
          have hA : At w wr := A1.below hso.2.2
          have h0 : ∀ u : Near wr, u.at_.cell? ⟨w.heap.size, 0, none⟩ = some (.int .u16 p) := fun u => (u.cell (Nat.lt_of_lt_of_le hlt1 hso.2.2.size)).trans ((hso.2.2.cell hlt1).trans CC0.out)
          have h1 : ∀ u : Near wr, u.at_.cell? ⟨w.heap.size, 1, none⟩ = some (.int .u16 q) := fun u => (u.cell (Nat.lt_of_lt_of_le hlt1 hso.2.2.size)).trans ((hso.2.2.cell hlt1).trans CC1.out)
          have hv := hso.text
          have hlin := more_lin s.data.toList t.data.toList p q (by rw [LS.out, LT.out]) hp hq
          rw [HZ.out] at hlin
          have hk1 := fun u : Near wr => crc_moreB p s u.at_ hp (by omega)
          have hk2 := fun u : Near wr => crc_moreB q t u.at_ hq (by omega)
          have hk3 := fun u : Near wr => crc_more (p ^^^ q) Z u.at_ (xor_u16 hp hq) (by rw [LZ.out]; omega)
          rw [hlin] at hk3
          have l1 := more_lt s.data.toList p hp
          have l2 := more_lt t.data.toList q hq
          clear hlin hso
          generalize moreN p s.data.toList = P at *
          generalize moreN q t.data.toList = Q at *
          have x1 : bits .xor .u16 (p : Int) (q : Int) = ((p ^^^ q : Nat) : Int) := u16_xor_nat _ _ hp hq
          have x2 : bits .xor .u16 (P : Int) (Q : Int) = ((P ^^^ Q : Nat) : Int) := u16_xor_nat _ _ l1 l2
          have K1 := Lib.hid hk1
          have K2 := Lib.hid hk2
          have K3 := Lib.hid hk3
          clear hk1 hk2 hk3
          go_wp2
          refine wp_region_calm (by kernel_rfl) (by kernel_rfl) ?_
          repeat (go_big_quiet_step (first
            | (go_at_call 10; with_reducible exact calm_drew _ (K1.out _))
            | (go_at_call 10; with_reducible exact calm_drew _ (K2.out _))
            | (go_at_call 10; with_reducible exact calm_drew _ (K3.out _))
            | (go_at_call 7; exact calm_of _ (law6_awake _ _ (Below.refl _ _)))))
          refine wpQuiet_nil ?_
          intro _ hw'
          obtain ⟨u, rfl⟩ := hw'
          go_wp2
          all_goals go_ret
          all_goals exact ⟨rfl, hA.below u.below⟩
  · go_enter Try.func6, Try.ntmps6
    go_wp2_with (first
    | (go_at_call 7; refine (law6_awake _ _ (by assumption)).mono ?_; rintro e w' ⟨rfl, hb⟩))
    all_goals go_ret
    all_goals exact ⟨rfl, by assumption⟩

theorem lifted (os : Os) (started : os.Started) (H : Type) (enc : TypeId × Value → H) :
    ReturnsInHanded {} Try.checked os 6 .any (Rows.crcLinearSpec.pre6 enc Try.prog Try.f6 Rows.crcLinearRow.domain false) (Rows.crcLinearSpec.post enc Try.prog Try.f6 false true false false) := by
  refine law_lift started (by kernel_rfl) Try.func6 rfl rfl ?_ (by kernel_rfl)
    (ChangeSpec.witness6 (enc := enc) (C := Try.checked) false ⟨#[], #[.string ⟨#[]⟩, .string ⟨#[]⟩, .agg #[.int .u16 0, .int .u16 0]], []⟩ 8 (by kernel_rfl) (by kernel_rfl) (by kernel_rfl) (by kernel_rfl)) ?_
  · intro ds hl
    match ds, hl with
    | [_, _, _], _ => exact ⟨rfl, rfl, rfl⟩
  · intro W base args ds p hval hA hlt hwt
    rw [Try.params6] at hA hval hwt
    obtain ⟨v0, vs0, d0, ds0, p0, q0, hargs, rfl, rfl, h0, r0⟩ := trodAll_cons hA
    obtain ⟨v1, vs1, d1, ds1, p1, q1, rfl, rfl, rfl, h1, r1⟩ := trodAll_cons r0
    obtain ⟨v2, vs2, d2, ds2, p2, q2, rfl, rfl, rfl, h2, r2⟩ := trodAll_cons r1
    obtain ⟨rfl, rfl, rfl⟩ := trodAll_nil r2
    obtain rfl : args = #[v0, v1, v2] := by cases args; simp_all
    obtain ⟨a0, rfl, rfl, rfl, w0⟩ := Go.ChangeMaps.open_string Try.underlying9 (hval 0 9 v0 rfl rfl) h0
    obtain ⟨a1, rfl, rfl, rfl, w1⟩ := Go.ChangeMaps.open_string Try.underlying9 (hval 1 9 v1 rfl rfl) h1
    obtain ⟨xs2, rfl, l2, w2⟩ := open_int_cells Try.underlying34 Try.underlying22 (by kernel_rfl) (by kernel_rfl) (hval 2 34 v2 rfl rfl) h2
    match xs2, l2, w2 with
    | [x2_0, x2_1], _, w2 =>
    exact walk W a0 w0 a1 w1 x2_0 (w2 _ (by simp)) x2_1 (w2 _ (by simp))

theorem over : Rows.crcLinearRow.holds Try.pinned (OpenSpec.ofChange Rows.crcLinearSpec) :=
  OpenClaim.holds_of_wide 6 Try.f6 rfl rfl rfl rfl rfl rfl rfl ⟨rfl, rfl, rfl, rfl, rfl⟩ rfl rfl rfl rfl rfl (by kernel_rfl) Try.func6 (by kernel_rfl)
    (of_decide_eq_true (by kernel_rfl)) (by unfold Func.isWrapper; first | (rw [if_pos (by decide +kernel)]; kernel_rfl) | (rw [if_neg (by decide +kernel)]; exact ⟨rfl, rfl⟩))
    (fun os started H enc _ => lifted os started H enc)

theorem proved : Rows.CrcLinearSaid := over
#print axioms proved
end Go.Proofs.Yticgapfknbceoaa.crcLinear
