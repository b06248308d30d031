/- RingKeeps holds of every list of numbers, and any room: whatever was pushed, these are the last ones of all, in order. No condition. -/
import Derived.Test.YtpkakoabopikhaaLaw4
import Derived.Test.YtpkakoabopikhaaLift
namespace Go.Proofs.Ytpkakoabopikhaa.ringKeeps
open Go.ChangeShapes Go.WideShapes Go.ChangeAt Go.RowKit
set_option linter.unusedVariables false

/-- The last q of the first i numbers. -/
def kept (xs : List Int) (q i : Nat) : List Int := (xs.take i).drop (i - q)
theorem kept_len (xs : List Int) (q i : Nat) (hi : i ≤ xs.length) : (kept xs q i).length = min i q := by unfold kept; simp; omega
theorem kept_push (xs : List Int) (q i : Nat) (hq : 0 < q) (hq2 : q ≤ 512) (hi : i < xs.length) : pushL (kept xs q i) q (xs.getD i 0) = kept xs q (i + 1) := by
  have hr : roomN q = q := by unfold roomN cntV; split <;> (try split) <;> omega
  unfold pushL
  rw [hr, if_neg (by omega)]
  unfold lastL
  rw [kept_len xs q i (by omega)]
  have hc : cntV (min i q) ((q : Int) - 1) = min i (q - 1) := by unfold cntV; split <;> (try split) <;> omega
  rw [hc]
  unfold kept
  rw [List.drop_drop, List.take_add_one, List.getElem?_eq_getElem hi]
  simp only [Option.toList_some, List.getD, List.getElem?_eq_getElem hi, Option.getD_some]
  rw [List.drop_append_of_le_length (by simp; omega)]
  congr 2
  omega
theorem kept_back (xs : List Int) (q i k : Nat) (hi : i < xs.length) (hk : k < min (i + 1) q) : backV (kept xs q (i + 1)) k = xs.getD (i - k) 0 ∧ backB (min (i + 1) q) k = true := by
  have hl := kept_len xs q (i + 1) (by omega)
  have hb : backB (min (i + 1) q) k = true := by unfold backB; simp; omega
  refine ⟨?_, hb⟩
  unfold backV
  rw [hl, hb, if_pos rfl]
  unfold kept
  simp only [List.getD, List.getElem?_drop, List.getElem?_take, Int.toNat_natCast]
  rw [if_pos (by omega)]
  congr 3
  omega
theorem kept_all (xs : List Int) (q : Nat) : kept xs q xs.length = lastL xs q := by
  unfold kept lastL cntV
  rw [List.take_of_length_le (Nat.le_refl _)]
  congr 1
  split <;> (try split) <;> omega

set_option maxRecDepth 100000 in
set_option maxHeartbeats 1000000 in
theorem walk (w : World) (A : Option Addr) (n c : Nat) (xs : List Int) (hi : Ints w A n xs) (hc : n ≤ c) (hr : n * 8 ≤ 140737488351232) (wx : ∀ x ∈ xs, (Lit.int .i64 x).wf = true) (most : Int) (wk : (Lit.int .u8 most).wf = true) :
    Calls Try.prog 4 #[.slice A n c, .int .u8 most] w fun e w' => e = .returned (.bool true) ∧ Below w.heap.size w w' := by
  clear wx
  have hA := At.refl w
  by_cases hn : 60 < n
  · clear hi
    go_enter Try.func4, Try.ntmps4
    go_wp2_with (go_at_call 6; refine (law4_awake w _ hA).mono ?_; rintro e w' ⟨rfl, hb⟩)
    go_ret
    exact ⟨rfl, hb⟩
  · have HI := Lib.hid hi
    have HL := Lib.hid hi.1
    clear hi
    have wm : 0 ≤ most ∧ most ≤ 255 := by
      simp only [Lit.wf, IntKind.min, IntKind.max, IntKind.signed, IntKind.bits, Bool.and_eq_true] at wk
      simpa using wk
    obtain ⟨m0, m1⟩ := wm
    obtain ⟨q, hq⟩ : ∃ q : Nat, 1 + most % 40 = q := ⟨(1 + most % 40).toNat, by omega⟩
    have q0 : 0 < q := by omega
    have q1 : q ≤ 40 := by omega
    go_enter Try.func4, Try.ntmps4
    go_wp2
    clear hq m0 m1 wk
    go_loopw [6, 21] (fun v i wr => ∃ (k : Nat) (B : Option Addr) (d : Nat), k ≤ n ∧ i = .int .i64 k ∧ v = .slice B (min k q) d ∧ min k q ≤ d ∧ Ints wr B (min k q) (kept xs q k) ∧ At w wr) (fun _ i _ => n - (intOf i).toNat)
    case atStart => exact ⟨0, none, 0, Nat.zero_le _, rfl, by rw [Nat.zero_min], by omega, ⟨by simp [kept], fun h => absurd h (by omega)⟩, hA⟩
    case round =>
      obtain ⟨k, B, d, hk, rfl, rfl, hd, hi, hb⟩ := hrel
      by_cases hlt : k < n
      · obtain ⟨b, off, rfl, hbs, hcell⟩ := HI.out.at_ hlt
        have hck := (hb.cell (p := ⟨b, off + k, none⟩) hbs).trans hcell
        have hP := ring_push B (min k q) d (kept xs q k) q (xs.getD k 0) wr hi hd (by omega)
        rw [kept_push xs q k q0 (by omega) (by have := HL.out; omega)] at hP
        have hl := kept_len xs q (k + 1) (by have := HL.out; omega)
        have HP := Lib.hid hP
        have HLK := Lib.hid hl
        have HB := Lib.hid (fun j (hj : j < min (k + 1) q) => kept_back xs q k j (by have := HL.out; omega) hj)
        clear hcell hP hl hi
        generalize xs.getD k 0 = x at *
        obtain ⟨m, hm⟩ : ∃ m, min k q = m := ⟨_, rfl⟩
        rw [hm] at HP hd ⊢
        obtain ⟨m', hm'⟩ : ∃ m, min (k + 1) q = m := ⟨_, rfl⟩
        rw [hm'] at HLK HB
        have hmm : (k + 1 ≤ q ∧ m' = k + 1) ∨ (q < k + 1 ∧ m' = q) := by omega
        have HMM := Lib.hid hm'
        clear hm hm'
        rcases hmm with ⟨h1, h2⟩ | ⟨h1, h2⟩
        all_goals
          have h3 : m' ≤ k + 1 := by omega
          have h4 : Hid (m' = min (k + 1) q) := Lib.hid (by omega)
          first
            | (have t1 : ((m' : Int) != (k : Int) + 1) = false := by simp; omega)
            | (have t1 : ((m' : Int) != if (q : Int) < (k : Int) + 1 then (q : Int) else (k : Int) + 1) = false := by
                 rw [if_pos (by omega)]; simp; omega)
          clear h2
          go_wp2_with (go_at_call 14; refine HP.out.mono ?_; rintro e w1 ⟨B1, d1, rfl, hd1, i1, b1⟩; rw [HLK.out] at i1 hd1; rw [HLK.out]; replace i1 := Lib.hid i1)
        all_goals
          clear t1
          have A1 : At w w1 := hb.below b1
          have hck : ∀ j : Nat, j < m' → w1.cell? ⟨b, off + (k - j), none⟩ = some (.int .i64 (xs.getD (k - j) 0)) := fun j hj => (A1.cell (p := ⟨b, off + (k - j), none⟩) hbs).trans (by
            obtain ⟨b', off', e, _, h⟩ := HI.out.at_ (k := k - j) (by omega)
            cases e; exact h)
          have HC := Lib.hid hck
          clear hck
          go_loop [40] (fun i => ∃ j : Nat, j ≤ m' ∧ i = .int .i64 j) (fun i => m' - (intOf i).toNat)
          case atStart => exact ⟨0, Nat.zero_le _, rfl⟩
          case round =>
            obtain ⟨j, hj, rfl⟩ := hrel
            by_cases hjm : j < m'
            · obtain ⟨v1, v2⟩ := HB.out j hjm
              have hR := ring_back B1 m' d1 (kept xs q (k + 1)) j w1 i1.out (by omega) (by omega) (by omega)
              rw [v1, v2] at hR
              have HR := Lib.hid hR
              have hc1 := HC.out j hjm
              have hjk : j ≤ k := by omega
              clear v1 v2 hR
              generalize xs.getD (k - j) 0 = y at *
              go_wp2_with (go_at_call 7; refine HR.out.mono ?_; rintro e w' ⟨rfl, rfl⟩)
              go_round
              case rel => exact ⟨j + 1, by omega, by go_num⟩
              case measure => simp [intOf]; omega
            · obtain rfl : j = m' := by omega
              go_wp2
              go_roundw
              case rel => exact ⟨k + 1, B1, d1, by omega, by go_num, by rw [← h4.out], by rw [← h4.out]; exact hd1, by rw [← h4.out]; exact i1.out, A1⟩
              case measure => simp [intOf]; omega
      · obtain rfl : k = n := by omega
        have I0 := Lib.hid hi
        have hK : kept xs q k = lastL xs q := by rw [← kept_all, HL.out]
        have s1 := eqL_refl (lastL xs q)
        have p1 : (lastL xs q).length ≤ k := by rw [lastL_len, HL.out]; exact cntV_le _ _
        have HK := Lib.hid hK
        obtain ⟨L, hL⟩ : ∃ L, lastL xs q = L := ⟨_, rfl⟩
        rw [hL] at s1 p1
        have HLL := Lib.hid hL
        clear hi hK hL
        obtain ⟨m, hm⟩ : ∃ m, min k q = m := ⟨_, rfl⟩
        have h5 : m ≤ 40 := by omega
        rw [hm] at I0 hd ⊢
        clear hm
        go_wp2_with (first
          | (go_at_call 16; refine (ring_last A k c xs q _ (HI.out.below hb) hc hr).mono ?_; rintro e w4 ⟨B4, d4, rfl, _, i4, b4⟩; rw [HLL.out] at i4; rw [HLL.out]; replace i4 := Lib.hid i4)
          | (go_at_call 13; refine (l4_ints w B B4 _ d _ d4 L L _ (hb.below b4) (by have := I0.out.below b4; rwa [HK.out, HLL.out] at this) i4.out (by omega) (by omega)).mono ?_; rintro e w6 ⟨rfl, a6, A6⟩)
          | (go_at_call 6; refine (law4_awake w _ A6).mono ?_; rintro e w7 ⟨rfl, hb7⟩))
        go_ret
        exact ⟨rfl, hb7⟩

theorem lifted (os : Os) (started : os.Started) (H : Type) (enc : TypeId × Value → H) :
    ReturnsInHanded {} Try.checked os 4 .any (Rows.ringKeepsSpec.pre6 enc Try.prog Try.f4 Rows.ringKeepsRow.domain false) (Rows.ringKeepsSpec.post enc Try.prog Try.f4 false true false false) := by
  refine law_lift started (by kernel_rfl) Try.func4 rfl rfl ?_ (by kernel_rfl)
    (ChangeSpec.witness6 (enc := enc) (C := Try.checked) false ⟨#[], #[.slice none 0 0, .int .u8 0], []⟩ 8 (by kernel_rfl) (by kernel_rfl) (by kernel_rfl) (by kernel_rfl)) ?_
  · intro ds hl
    match ds, hl with
    | [_, _], _ => exact ⟨rfl, rfl, rfl⟩
  · intro W base args ds p hval hA hlt hwt
    rw [Try.params4] at hA hval hwt
    obtain ⟨v0, vs0, d0, ds0, p0, q0, hargs, rfl, rfl, h0, r0⟩ := trodAll_cons hA
    obtain ⟨v1, vs1, d1, ds1, p1, q1, rfl, rfl, rfl, h1, r1⟩ := trodAll_cons r0
    obtain ⟨rfl, rfl, rfl⟩ := trodAll_nil r1
    obtain rfl : args = #[v0, v1] := by cases args; simp_all
    have wt0 : ∀ n ∈ d0.weights Try.prog 22, n ≤ reachBytes := fun n hn => by
      have := List.all_eq_true.1 hwt n (DataW.weights_mem_each (j := 0) (t := 22) (d := d0) rfl rfl n hn)
      simpa using this
    have lt0 : ∀ x ∈ p0, x.block < W.heap.size := fun x hx => hlt x (by simp [hx])
    obtain ⟨A0, n0, c0, xs0, rfl, hi0, hc0, hr0, w0⟩ := open_ints_arg Try.underlying22 Try.underlying3 (by kernel_rfl) (by kernel_rfl) (hval 0 22 v0 rfl rfl) h0 lt0 wt0
    obtain ⟨a1, rfl, rfl, rfl, w1⟩ := open_int Try.underlying5 (hval 1 5 v1 rfl rfl) h1
    exact walk W A0 n0 c0 xs0 hi0 hc0 hr0 w0 a1 w1

theorem over : Rows.ringKeepsRow.holds Try.pinned (OpenSpec.ofChange Rows.ringKeepsSpec) :=
  OpenClaim.holds_of_wide 4 Try.f4 rfl rfl rfl rfl rfl rfl rfl ⟨rfl, rfl, rfl, rfl, rfl⟩ rfl rfl rfl rfl rfl (by kernel_rfl) Try.func4 (by kernel_rfl)
    (of_decide_eq_true (by kernel_rfl)) (by unfold Func.isWrapper; first | (rw [if_pos (by decide +kernel)]; kernel_rfl) | (rw [if_neg (by decide +kernel)]; exact ⟨rfl, rfl⟩))
    (fun os started H enc _ => lifted os started H enc)

theorem proved : Rows.RingKeepsSaid := over
#print axioms proved
end Go.Proofs.Ytpkakoabopikhaa.ringKeeps
