/- GuardLoss holds of every rate and every tick of the drop: no drop for the timeout is latched in its last tick, and not sooner. No condition. -/
import Derived.Test.YtknhejpomemilaaGuardN
import Derived.Deep.LoopGhost
import Derived.Test.YtknhejpomemilaaLift
namespace Go.Proofs.Ytknhejpomemilaa.guardLoss
open Go.ChangeShapes Go.WideShapes Go.ChangeAt Go.RowKit
set_option linter.unusedVariables false
set_option linter.unusedSimpArgs false
set_option maxRecDepth 100000
attribute [local go_sem] cell_set_ite Near.cell Near.frozen

/-- How long there has been no drop. -/
def snV (K t : Nat) : Nat := if t < K then t else t - K
def lkL (t : Nat) (R : Int) (q : Bool) : Lk := ⟨(t : Int), 3, R, 100, 60, q, false, false, false, 0, 0, 4000, 0, false, 0, false, 0, 0, false, 0, false, false, false⟩
theorem sn_step (K t : Nat) (hK : 1 ≤ K) (h1 : 1 ≤ t) (h : t ≤ 400) (hK2 : K ≤ 400) : loS ((snV K (t - 1) : Nat) : Int) true (decide (t = K)) = ((snV K t : Nat) : Int) := by
  have hb : snV K (t - 1) ≤ 400 := by unfold snV; split <;> omega
  unfold loS
  rw [if_pos rfl]
  by_cases e : t = K
  · rw [decide_eq_true e]
    show roV _ false = _
    rw [ro_no]
    unfold snV
    rw [if_neg (by omega)]
    omega
  · rw [decide_eq_false e]
    show roV _ true = _
    rw [ro_yes, mo_in (by omega) (by omega)]
    unfold snV
    split <;> split <;> omega
theorem mi_is (K t T : Nat) (R : Int) (q : Bool) (R0 : 200 ≤ R) (R1 : R ≤ 500) (hT : toV R 60 = (T : Int)) (hK : 1 ≤ K) (hKT : K ≤ T) (h1 : 1 ≤ t) (h : t ≤ K + T) : miB ((snV K t : Nat) : Int) (lkL t R q) = decide (t = K + T) := by
  have hh : hoB R 60 = true := by
    rcases ho_ways R 60 with ⟨a, _⟩ | ⟨_, b⟩ | ⟨_, _, c⟩
    · exact a
    · exact absurd b (by decide)
    · omega
  unfold miB
  show (hoB (paV 3 R) 60 && ltB _ (toV (paV 3 R) 60)) = _
  rw [show paV 3 R = R from rfl, hh, hT, Bool.true_and]
  unfold ltB
  have e : (max (T : Int) 1 ≤ ((snV K t : Nat) : Int)) ↔ t = K + T := by
    unfold snV
    split <;> omega
  exact decide_eq_decide.2 e
theorem to_is (R : Int) (R0 : 200 ≤ R) (R1 : R ≤ 500) : toV R 60 = 1440000 / (R * 60) + 50 := by
  unfold toV
  have hh : hoB R 60 = true := by
    rcases ho_ways R 60 with ⟨a, _⟩ | ⟨_, b⟩ | ⟨_, _, c⟩
    · exact a
    · exact absurd b (by decide)
    · omega
  rw [hh, if_pos rfl]
theorem he_bit (k : Lk) (ys : List Int) (D0 D1 L0 L1 P0 P1 : Int) : bitI (heV k ys D0 D1 L0 L1 P0 P1) 4 = miB L0 k := by unfold heV; exact he_bit4 _ _ _ _ _ _ _ _ _ _ _ _

set_option maxHeartbeats 8000000 in
theorem walk (r : Int) (wr : (Lit.int .u16 r).wf = true) (at_ : Int) (wa : (Lit.int .u8 at_).wf = true) (W : World) :
    Calls Try.prog 5 #[.int .u16 r, .int .u8 at_] W fun e W' => e = .returned (.bool true) ∧ Below W.heap.size W W' := by
  simp only [Lit.wf, IntKind.min, IntKind.max, IntKind.signed, IntKind.bits, Bool.and_eq_true] at wr wa
  simp at wr wa
  have r0 : 0 ≤ r := by omega
  have r1 : r ≤ 65535 := by omega
  have a0 : 0 ≤ at_ := by omega
  have a1 : at_ ≤ 255 := by omega
  clear wr wa
  obtain ⟨R, hR⟩ : ∃ R, 200 + r % 301 = R := ⟨_, rfl⟩
  have R0 : 200 ≤ R := by omega
  have R1 : R ≤ 500 := by omega
  obtain ⟨X, hX⟩ : ∃ X, 1440000 / (R * 60) = X := ⟨_, rfl⟩
  have hX0 : 48 ≤ X := by rw [← hX]; exact Int.le_ediv_of_mul_le (by omega) (by omega)
  have hX1 : X ≤ 120 := by rw [← hX]; exact Int.ediv_le_of_le_mul (by omega) (by omega)
  obtain ⟨T, hT⟩ : ∃ T : Nat, X + 50 = (T : Int) := ⟨(X + 50).toNat, by omega⟩
  have hTV : toV R 60 = (T : Int) := by rw [to_is R R0 R1, hX, hT]
  have T0 : 98 ≤ T := by omega
  have T1 : T ≤ 170 := by omega
  obtain ⟨K, hK⟩ : ∃ K : Nat, 1 + at_ % (T : Int) = (K : Int) := ⟨(1 + at_ % (T : Int)).toNat, by have := Int.emod_nonneg at_ (show (T : Int) ≠ 0 by omega); omega⟩
  have K0 : 1 ≤ K := by have := Int.emod_nonneg at_ (show (T : Int) ≠ 0 by omega); omega
  have K1 : K ≤ T := by have := Int.emod_lt_of_pos at_ (show (0 : Int) < T by omega); omega
  have b0 : 0 ≤ at_ % (T : Int) := Int.emod_nonneg at_ (by omega)
  have b1 : at_ % (T : Int) ≤ 170 := by have := Int.emod_lt_of_pos at_ (show (0 : Int) < T by omega); omega
  have A0 : Below W.heap.size W W := Below.refl _ _
  have HTV := Lib.hid hTV
  clear hTV
  go_enter Try.func5, Try.ntmps5
  go_upto_region 5 with (fail)
  refine at_world (fun w => Below W.heap.size W w ∧ Box w W.heap.size #[.int .i64 R, .int .i64 100, .int .i64 60] ∧ Box w (W.heap.size + 1) #[.int .i64 0, .int .i64 0, .int .i64 0, .int .i64 0, .int .i64 0, .int .i64 0, .slice none 0 0, .int .i64 0]) ⟨by (repeat (first | (with_reducible exact Below.refl _ _) | (with_reducible assumption) | (with_reducible refine Near.up _ ?_) | (with_reducible refine Below.drew ?_) | (with_reducible refine below_alloc_on ?_ _) | (with_reducible refine below_set_on ?_ (by first | (simp; done) | (simp; omega) | omega) _))), by (repeat (first | (with_reducible assumption) | (with_reducible exact box_new _ _ _) | ((with_reducible apply box_at); (first | (with_reducible rfl) | (simp <;> omega))) | (with_reducible apply Box.drew) | (with_reducible apply Box.drewN) | (with_reducible apply Box.near) | (with_reducible apply Box.alloc) | ((with_reducible apply box_far); (first | assumption | omega | (simp <;> omega))) | ((with_reducible apply Box.one_set); (with_reducible assumption)) | ((with_reducible apply Box.two_set); (with_reducible assumption)) | ((with_reducible apply Box.three_set); (with_reducible assumption)) | (with_reducible apply Box.set) | (simp only [List.size_toArray, List.length_cons, List.length_nil, Array.size_setIfInBounds] <;> omega))), box_cast (by (repeat (first | (with_reducible assumption) | (with_reducible exact box_new _ _ _) | ((with_reducible apply box_at); (first | (with_reducible rfl) | (simp <;> omega))) | (with_reducible apply Box.drew) | (with_reducible apply Box.drewN) | (with_reducible apply Box.near) | (with_reducible apply Box.alloc) | ((with_reducible apply box_far); (first | assumption | omega | (simp <;> omega))) | ((with_reducible apply Box.one_set); (with_reducible assumption)) | ((with_reducible apply Box.two_set); (with_reducible assumption)) | ((with_reducible apply Box.three_set); (with_reducible assumption)) | (with_reducible apply Box.set) | (simp only [List.size_toArray, List.length_cons, List.length_nil, Array.size_setIfInBounds] <;> omega)))) (by first | rfl | simp)⟩ ?_
  clear A0
  rintro w1 ⟨A1, P1, G1⟩
  obtain ⟨g, hg⟩ : ∃ g, W.heap.size + 1 = g := ⟨_, rfl⟩
  obtain ⟨p, hp⟩ : ∃ p, W.heap.size = p := ⟨_, rfl⟩
  have og : W.heap.size ≤ g := by omega
  have op : W.heap.size ≤ p := by omega
  have npg : ¬ p = g := by omega
  have ngp : ¬ g = p := by omega
  rw [hg] at G1
  rw [hp] at P1
  simp only [hg]
  simp only [hp]
  clear hg hp hX hR
  have HA1 := Lib.hid A1
  have HP1 := Lib.hid P1
  have HG1 := Lib.hid G1
  clear A1 P1 G1
  go_wp2
  go_loopg [9] (K + T) (fun gk i wr => ∃ (t m d : Nat) (B : Option Addr) (ys : List Int) (d0 d1 l1 p0 p1 la : Int), gk = K + T + 1 - t ∧ 1 ≤ t ∧ t ≤ K + T + 1 ∧ i = .int .i64 (t : Int) ∧ Below W.heap.size W wr ∧ Box wr p #[.int .i64 R, .int .i64 100, .int .i64 60] ∧
    Box wr g #[.int .i64 d0, .int .i64 d1, .int .i64 ((snV K (t - 1) : Nat) : Int), .int .i64 l1, .int .i64 p0, .int .i64 p1, .slice B m d, .int .i64 la] ∧ Ints wr B m ys ∧ m ≤ d ∧ m ≤ 512 ∧ (t ≤ K + T → bitI la 4 = false))
  case atStart => exact ⟨1, 0, 0, none, [], 0, 0, 0, 0, 0, 0, by omega, by omega, by omega, rfl, HA1.out, HP1.out, by have h := HG1.out; rw [show snV K (1 - 1) = 0 by unfold snV; split <;> omega]; exact h, ⟨rfl, fun h => absurd h (by omega)⟩, by omega, by omega, fun _ => by decide⟩
  case round =>
    clear HA1 HP1 HG1
    obtain ⟨t, m, d, B, ys, d0, d1, l1, p0, p1, la, hgk, ht1, ht2, rfl, A, P, G, hi, hd, hm, hla⟩ := hrel
    by_cases hlt : t ≤ K + T
    · have hbit := hla hlt
      obtain ⟨q, hq⟩ : ∃ q, ((t : Int) == (K : Int)) = q := ⟨_, rfl⟩
      have hqd : q = decide (t = K) := by
        rw [← hq]
        by_cases e : t = K
        · subst e; simp
        · rw [decide_eq_false e]; simp; omega
      obtain ⟨k, hk⟩ : ∃ k, lkL t R q = k := ⟨_, rfl⟩
      have hkc : lkC k = #[.int .i64 (t : Int), .int .i64 3, .int .i64 R, .int .i64 100, .int .i64 60, .bool q, .bool false, .bool false, .bool false, .int .i64 0, .int .i64 0, .int .i64 4000, .int .i64 0, .bool false, .int .i64 0, .bool false, .int .i64 0, .int .i64 0, .bool false, .int .i64 0, .bool false, .bool false, .bool false] := by rw [← hk]; rfl
      have km : k.m = 3 := by rw [← hk]; rfl
      have kd : k.dr = decide (t = K) := by rw [← hqd, ← hk]; rfl
      have ka : k.ak = false := by rw [← hk]; rfl
      have ki : inB k.m = true := by rw [km]; decide
      have hmi : miB ((snV K t : Nat) : Int) k = decide (t = K + T) := by rw [← hk]; exact mi_is K t T R q R0 R1 HTV.out K0 K1 ht1 hlt
      have hs := fun w hi => g_step B m d ys d0 d1 ((snV K (t - 1) : Nat) : Int) l1 p0 p1 la k w hi hd (by omega) _ rfl _ rfl _ rfl
      have hL := pn_len ys k.t k.dr (liV k.r k.s)
      have hLA : bitI (laV la (heV k (pnL ys k.t k.dr (liV k.r k.s)) (drA d0 d1 k) (drB d0 d1 k) (loS ((snV K (t - 1) : Nat) : Int) (inB k.m) k.dr) (loW l1 (inB k.m) (svB k)) (poT p0 k.ti) (poB p1 k.ba)) k) 4 = decide (t = K + T) := by
        rw [la_bit4 _ _ k ka km, he_bit, hbit, Bool.false_or, ki, kd, sn_step K t K0 ht1 (by omega) (by omega), hmi]
      generalize laV la (heV k (pnL ys k.t k.dr (liV k.r k.s)) (drA d0 d1 k) (drB d0 d1 k) (loS ((snV K (t - 1) : Nat) : Int) (inB k.m) k.dr) (loW l1 (inB k.m) (svB k)) (poT p0 k.ti) (poB p1 k.ba)) k = LA at hs hLA
      generalize heV k (pnL ys k.t k.dr (liV k.r k.s)) (drA d0 d1 k) (drB d0 d1 k) (loS ((snV K (t - 1) : Nat) : Int) (inB k.m) k.dr) (loW l1 (inB k.m) (svB k)) (poT p0 k.ti) (poB p1 k.ba) = HE at hs
      simp only [ki, kd, sn_step K t K0 ht1 (by omega : t ≤ 400) (by omega), hkc] at hs
      rw [kd] at hL
      generalize pnL ys k.t (decide (t = K)) (liV k.r k.s) = zs at hs hL
      generalize drA d0 d1 k = D0 at hs
      generalize drB d0 d1 k = D1 at hs
      generalize loW l1 true (svB k) = L1 at hs
      generalize poT p0 k.ti = P0 at hs
      generalize poB p1 k.ba = P1 at hs
      obtain ⟨n, hn⟩ : ∃ n, zs.length = n := ⟨_, rfl⟩
      rw [hn] at hs hL
      have HS := Lib.hid hs
      have HI := Lib.hid hi
      have HK := Lib.hid hgk
      obtain ⟨b, hb⟩ : ∃ b, decide (t = K + T) = b := ⟨_, rfl⟩
      have h1 : (bits .and .i64 LA 16 != 0) = b := by rw [← hb, ← hLA]; exact h_bit LA 4 (by omega)
      have h2 : ((t : Int) == (K : Int) + (T : Int)) = b := by
        rw [← hb]
        by_cases e : t = K + T
        · rw [decide_eq_true e]; simp; omega
        · rw [decide_eq_false e]; simp; omega
      have HLA := Lib.hid hLA
      have t1 : decide ((t : Int) ≤ (K : Int) + (T : Int)) = true := by simp; omega
      clear hs hi hgk hla hbit hqd hk hkc km kd ka ki hmi hLA hn hb
      have cp := P.2.1
      have lp := P.1
      have cg := G.2.1
      have lg := G.1
      go_wp2_with (fail)
      refine (HS.out _ HI.out).mono ?_
      rintro e w2 ⟨B', d', rfl, hd', hi', hnb, hb⟩
      have A2 := below_call A hb
      have P2 := P.below hb
      have G2 := G.below hb
      have hne : ∀ b o, B' = some ⟨b, o, none⟩ → b ≠ g := fun b o e => by have := hnb b o e; omega
      have hi8 := Lib.hid (ints_set (ints_set (ints_set (ints_set (ints_set (ints_set (ints_set (ints_set (hi') hne 0 (.int .i64 D0)) hne 1 (.int .i64 D1)) hne 2 (.int .i64 ((snV K t : Nat) : Int))) hne 3 (.int .i64 L1)) hne 4 (.int .i64 P0)) hne 5 (.int .i64 P1)) hne 6 (.slice B' n d')) hne 7 (.int .i64 LA))
      have G8 := Lib.hid (Box.eight_set G2 (.int .i64 D0) (.int .i64 D1) (.int .i64 ((snV K t : Nat) : Int)) (.int .i64 L1) (.int .i64 P0) (.int .i64 P1) (.slice B' n d') (.int .i64 LA))
      clear hb A P G cp lp cg lg hnb hi' hne HI HS
      have cg := G2.2.1
      have lg := G2.1
      have fg := G2.2.2
      go_upto_region 9 with (fail)
      refine at_world (fun w => Below W.heap.size W w ∧ Box w p #[.int .i64 R, .int .i64 100, .int .i64 60] ∧ Box w g #[.int .i64 D0, .int .i64 D1, .int .i64 ((snV K t : Nat) : Int), .int .i64 L1, .int .i64 P0, .int .i64 P1, .slice B' n d', .int .i64 LA] ∧ Ints w B' n zs) ⟨by (repeat (first | (with_reducible exact Below.refl _ _) | (with_reducible assumption) | (with_reducible refine Near.up _ ?_) | (with_reducible refine Below.drew ?_) | (with_reducible refine below_alloc_on ?_ _) | (with_reducible refine below_set_on ?_ (by first | (simp; done) | (simp; omega) | omega) _))), by (repeat (first | (with_reducible assumption) | (with_reducible exact box_new _ _ _) | ((with_reducible apply box_at); (first | (with_reducible rfl) | (simp <;> omega))) | (with_reducible apply Box.drew) | (with_reducible apply Box.drewN) | (with_reducible apply Box.near) | (with_reducible apply Box.alloc) | ((with_reducible apply box_far); (first | assumption | omega | (simp <;> omega))) | ((with_reducible apply Box.one_set); (with_reducible assumption)) | ((with_reducible apply Box.two_set); (with_reducible assumption)) | ((with_reducible apply Box.three_set); (with_reducible assumption)) | (with_reducible apply Box.set) | (simp only [List.size_toArray, List.length_cons, List.length_nil, Array.size_setIfInBounds] <;> omega))), G8.out, hi8.out⟩ ?_
      clear A2 P2 G2 G8 hi8 cg lg fg
      rintro w3 ⟨A3, P3, G3, hi3⟩
      have cg := G3.2.1
      have lg := G3.1
      have HA3 := Lib.hid A3
      have HP3 := Lib.hid P3
      have HG3 := Lib.hid G3
      have HI3 := Lib.hid hi3
      clear A3 P3 G3 hi3
      go_wp2
      go_roundg (K + T + 1 - (t + 1))
      case measure => have := HK.out; omega
      case rel => exact ⟨t + 1, n, d', B', zs, D0, D1, L1, P0, P1, LA, rfl, by omega, by omega, by go_num, HA3.out, HP3.out, by rw [Nat.add_sub_cancel]; exact HG3.out, HI3.out, hd', hL, fun h => by rw [HLA.out]; exact decide_eq_false (by omega)⟩
    · have t1 : decide ((t : Int) ≤ (K : Int) + (T : Int)) = false := by simp; omega
      have HA := Lib.hid A
      clear A P G hi hla hgk
      go_wp2_with (go_at_call 7; refine (law35_awake _).mono ?_; rintro e w' ⟨rfl, hb⟩)
      all_goals go_ret
      all_goals exact ⟨rfl, below_call HA.out hb⟩

set_option maxRecDepth 100000 in
theorem lifted (os : Os) (started : os.Started) (H : Type) (enc : TypeId × Value → H) :
    ReturnsInHanded {} Try.checked os 5 .any (Rows.guardLossSpec.pre6 enc Try.prog Try.f5 Rows.guardLossRow.domain false) (Rows.guardLossSpec.post enc Try.prog Try.f5 false true false false) := by
  refine law_lift started (by kernel_rfl) Try.func5 rfl rfl ?_ (by kernel_rfl)
    (ChangeSpec.witness6 (enc := enc) (C := Try.checked) false ⟨#[], #[.int .u16 0, .int .u8 0], []⟩ 8 (by kernel_rfl) (by kernel_rfl) (by kernel_rfl) (by kernel_rfl)) ?_
  · intro ds hl
    match ds, hl with
    | [_, _], _ => exact ⟨rfl, rfl, rfl⟩
  · intro W base args ds p hval hA hlt hwt
    rw [Try.params5] at hA hval hwt
    obtain ⟨v0, vs0, d0, ds0, p0, q0, hargs, rfl, rfl, h0, r0⟩ := trodAll_cons hA
    obtain ⟨v1, vs1, d1, ds1, p1, q1, rfl, rfl, rfl, h1, r1⟩ := trodAll_cons r0
    obtain ⟨rfl, rfl, rfl⟩ := trodAll_nil r1
    obtain rfl : args = #[v0, v1] := by cases args; simp_all
    obtain ⟨a0, rfl, rfl, rfl, w0⟩ := open_int Try.underlying45 (hval 0 45 v0 rfl rfl) h0
    obtain ⟨a1, rfl, rfl, rfl, w1⟩ := open_int Try.underlying5 (hval 1 5 v1 rfl rfl) h1
    exact walk a0 w0 a1 w1 W

theorem over : Rows.guardLossRow.holds Try.pinned (OpenSpec.ofChange Rows.guardLossSpec) :=
  OpenClaim.holds_of_wide 5 Try.f5 rfl rfl rfl rfl rfl rfl rfl ⟨rfl, rfl, rfl, rfl, rfl⟩ rfl rfl rfl rfl rfl (by kernel_rfl) Try.func5 (by kernel_rfl)
    (of_decide_eq_true (by kernel_rfl)) (by unfold Func.isWrapper; first | (rw [if_pos (by decide +kernel)]; kernel_rfl) | (rw [if_neg (by decide +kernel)]; exact ⟨rfl, rfl⟩))
    (fun os started H enc _ => lifted os started H enc)

theorem proved : Rows.GuardLossSaid := over
#print axioms proved
end Go.Proofs.Ytknhejpomemilaa.guardLoss
