/- GuardFree holds of every programme and every list of gaps, running or paused: free flow is latched just when more drops than the limit fell within a minute. No condition. -/
import Derived.Test.YtknhejpomemilaaGuardN
import Derived.Test.YtknhejpomemilaaEnough
import Derived.Test.YtknhejpomemilaaNums
import Derived.Test.YtknhejpomemilaaArr
import Derived.Test.YtknhejpomemilaaLift
import Derived.Deep.LoopGhost
import Derived.Deep.DeepCutAuto
namespace Go.Proofs.Ytknhejpomemilaa.guardFree
open Go.ChangeShapes Go.WideShapes Go.ChangeAt Go.RowKit
set_option linter.unusedVariables false
set_option linter.unusedSimpArgs false
set_option maxRecDepth 100000
attribute [local go_sem] cell_set_ite Near.cell Near.frozen
attribute [local go_sem ↓] Go.wp_at_zero Go.wp_at_succ

/-- The bit of free flow in what is held. -/
theorem he_bit1 (b0 b1 b2 b3 b4 b5 b6 b7 b8 b9 ba bb : Bool) :
    bitI (smV [(1, b0), (2, b1), (4, b2), (8, b3), (16, b4), (32, b5), (64, b6), (128, b7), (256, b8), (512, b9), (1024, ba), (2048, bb)]) 1 = b1 := by
  unfold smV
  simp only [List.foldl_cons, List.foldl_nil, if_bit, show bitI 0 1 = false by decide, show bitI 1 1 = false by decide, show bitI 2 1 = true by decide, show bitI 4 1 = false by decide, show bitI 8 1 = false by decide, show bitI 16 1 = false by decide, show bitI 32 1 = false by decide, show bitI 64 1 = false by decide, show bitI 128 1 = false by decide, show bitI 256 1 = false by decide, show bitI 512 1 = false by decide, show bitI 1024 1 = false by decide, show bitI 2048 1 = false by decide]
  simp
theorem la_bit1 (was held : Int) (k : Lk) (hk : k.ak = false) (hm : k.m = 3 ∨ k.m = 4) : bitI (laV was held k) 1 = (bitI was 1 || bitI held 1) := by
  unfold laV
  rw [hk, if_neg (by simp)]
  rcases hm with h | h
  · rw [h, ra_bit _ _ 1 (by omega), and_bit, show arV 3 = 4095 from rfl, show bitI 4095 1 = true by decide, Bool.and_true]
  · rw [h, ra_bit _ _ 1 (by omega), and_bit, show arV 4 = 3842 from rfl, show bitI 3842 1 = true by decide, Bool.and_true]
theorem he_is (k : Lk) (ys : List Int) (D0 D1 L0 L1 P0 P1 : Int) : bitI (heV k ys D0 D1 L0 L1 P0 P1) 1 = (hoB k.r k.s && overB ys k.t 6000 (pcV (liV k.r k.s))) := by unfold heV; exact he_bit1 _ _ _ _ _ _ _ _ _ _ _ _
def lkF (t m R f : Int) : Lk := ⟨t, m, R, 100, f, true, false, false, false, 0, 0, 4000, 0, false, 0, false, 0, 0, false, 0, false, false, false⟩
theorem box_in {w w' : World} {g z : Nat} {cs : Array Value} (h : Box w g cs) (hb : Below z w w') (hz : g < z) : Box w' g cs :=
  ⟨Nat.lt_of_lt_of_le h.1 hb.size, fun i => (hb.cell (p := ⟨g, i, none⟩) hz).trans (h.2.1 i), fun i => (hb.frozen (p := ⟨g, i, none⟩) hz).trans (h.2.2 i)⟩
theorem ints_grown {w w' : World} {row : Option Nat} {A : Option Addr} {n : Nat} {xs : List Int} (h : Ints w A n xs) (hg : w.grownBy w' row) (hne : ∀ g off, A = some ⟨g, off, none⟩ → some g ≠ row) : Ints w' A n xs := by
  refine ⟨h.1, fun hn => ?_⟩
  obtain ⟨b, o, e, hlt, hc⟩ := h.2 hn
  refine ⟨b, o, e, Nat.lt_of_lt_of_le hlt hg.size, fun i hi => ?_⟩
  have h1 := hne b o e
  exact hg.cell (hc i hi) h1

/-- Another programme's guard: how it stands and what is latched stay. -/
theorem g_fresh (d0 d1 l0 l1 p0 p1 la : Int) (B : Option Addr) (m d : Nat) (w : World) :
    Calls Try.prog 11 #[.agg #[.int .i64 d0, .int .i64 d1, .int .i64 l0, .int .i64 l1, .int .i64 p0, .int .i64 p1, .slice B m d, .int .i64 la]] w fun e w' => e = .returned (.agg #[.int .i64 0, .int .i64 0, .int .i64 0, .int .i64 0, .int .i64 p0, .int .i64 p1, .slice none 0 0, .int .i64 la]) ∧ Below w.heap.size w w' := by
  have A0 : Below w.heap.size w w := Below.refl _ _
  go_enter Try.func11, Try.ntmps11
  go_wp2
  exact bodyPost_ret (v := .agg #[.int .i64 0, .int .i64 0, .int .i64 0, .int .i64 0, .int .i64 p0, .int .i64 p1, .slice none 0 0, .int .i64 la]) (by simp [results, Try.results11, go_sem]) rfl ⟨rfl, by (repeat (first | (with_reducible exact Below.refl _ _) | (with_reducible assumption) | (with_reducible refine Near.up _ ?_) | (with_reducible refine Below.drew ?_) | (with_reducible refine below_alloc_on ?_ _) | (with_reducible refine below_set_on ?_ (by first | (simp; done) | (simp; omega) | omega) _)))⟩

set_option maxHeartbeats 8000000 in
theorem walk (W : World) (p : Int) (wp : (Lit.int .u16 p).wf = true) (q : Int) (wq : (Lit.int .u16 q).wf = true) (A : Option Addr) (n c : Nat) (xs : List Int) (hi : Nums .u8 W A n xs) (hc : n ≤ c) (hr : n * 1 ≤ 140737488351232) (wx : ∀ x ∈ xs, (Lit.int .u8 x).wf = true) (was : Bool) :
    Calls Try.prog 4 #[.agg #[.int .u16 p, .int .u16 q], .slice A n c, .bool was] W fun e W' => e = .returned (.bool true) ∧ Below W.heap.size W W' := by
  have HX := Lib.hid (show ∀ j : Nat, j < n → 0 ≤ xs.getD j 0 ∧ xs.getD j 0 ≤ 255 from fun j hj => by
    have hj' : j < xs.length := by have := hi.1; omega
    have h := wx (xs.getD j 0) (by simp [List.getD, List.getElem?_eq_getElem hj'])
    simp only [Lit.wf, IntKind.min, IntKind.max, IntKind.signed, IntKind.bits, Bool.and_eq_true] at h
    simpa using h)
  have HI := Lib.hid hi
  simp only [Lit.wf, IntKind.min, IntKind.max, IntKind.signed, IntKind.bits, Bool.and_eq_true] at wp wq
  simp at wp wq
  have p0 : 0 ≤ p := by omega
  have p1 : p ≤ 65535 := by omega
  have q0 : 0 ≤ q := by omega
  have q1 : q ≤ 65535 := by omega
  clear hi wx wp wq
  obtain ⟨kk, hkk⟩ : ∃ kk : Nat, q % 256 = (kk : Int) := ⟨(q % 256).toNat, by omega⟩
  have hk : kk < 256 := by omega
  obtain ⟨f, hf⟩ : ∃ f, setV kk = f := ⟨_, rfl⟩
  have kn : Kn f := hf ▸ set_kn kk
  have HS := Lib.hid (fun w => law9_set kk hk w)
  rw [hf] at HS
  have f0 : 10 ≤ f := by unfold Kn at kn; omega
  have f1 : f ≤ 60 := by unfold Kn at kn; omega
  obtain ⟨R, hR⟩ : ∃ R, 1 + p % 120 = R := ⟨_, rfl⟩
  have R0 : 1 ≤ R := by omega
  have R1 : R ≤ 120 := by omega
  obtain ⟨M, hM⟩ : ∃ M, R * f = M := ⟨_, rfl⟩
  have M0 : 10 ≤ M ∧ M ≤ 7200 := by
    rw [← hM]
    unfold Kn at kn
    rcases kn with e | e | e | e <;> rw [e] <;> omega
  obtain ⟨M0, M1⟩ := M0
  obtain ⟨Y, hY⟩ : ∃ Y, M / 60 = Y := ⟨_, rfl⟩
  have Y0 : 0 ≤ Y := by omega
  have Y1 : Y ≤ 120 := by omega
  obtain ⟨m, hm⟩ : ∃ m : Nat, Y + 8 = (m : Int) := ⟨(Y + 8).toNat, by omega⟩
  have m1 : m ≤ 128 := by omega
  have hho : hoB R f = true := by
    rcases ho_ways R f with ⟨a, _⟩ | ⟨_, b⟩ | ⟨_, _, c⟩
    · exact a
    · exfalso; unfold Kn at kn; rcases kn with e | e | e | e <;> (rw [e] at b; exact absurd b (by decide))
    · omega
  have hli : liV R f = (m : Int) := by unfold liV; rw [if_pos hho, hM, hY, hm]
  have HHO := Lib.hid hho
  have HLI := Lib.hid hli
  have A0 : Below W.heap.size W W := Below.refl _ _
  clear hf kn hk hho hli
  by_cases hn : 300 < n
  · have t1 : decide (300 < (n : Int)) = true := by simp; omega
    go_enter Try.func4, Try.ntmps4
    go_wp2_with (first
      | (go_at_call 10; refine (HS.out _).mono ?_; rintro e w' ⟨rfl, rfl⟩)
      | (go_at_call 7; refine (law35_awake _).mono ?_; rintro e w' ⟨rfl, hb⟩))
    all_goals go_ret
    all_goals exact ⟨rfl, below_call (by (repeat (first | (with_reducible exact Below.refl _ _) | (with_reducible assumption) | (with_reducible refine Near.up _ ?_) | (with_reducible refine Below.drew ?_) | (with_reducible refine below_alloc_on ?_ _) | (with_reducible refine below_set_on ?_ (by first | (simp; done) | (simp; omega) | omega) _)))) hb⟩
  have t1 : decide (300 < (n : Int)) = false := by simp; omega
  have t2 : decide (30000 < M) = false := by simp; omega
  obtain ⟨mo, hmo⟩ : ∃ mo : Int, (if was = true then 4 else 3) = mo := ⟨_, rfl⟩
  go_enter Try.func4, Try.ntmps4
  go_upto_if 46 with (go_at_call 10; refine (HS.out _).mono ?_; rintro e w' ⟨rfl, rfl⟩)
  go_cut [10] (fun v wx => v = .int .i64 mo ∧ Below W.heap.size W wx ∧ Box wx (W.heap.size + 1) #[.int .i64 R, .int .i64 100, .int .i64 f])
  case first =>
    cases was
    · go_wp2_with (fail)
      go_meet
      exact ⟨by rw [← hmo]; rfl, by (repeat (first | (with_reducible exact Below.refl _ _) | (with_reducible assumption) | (with_reducible refine Near.up _ ?_) | (with_reducible refine Below.drew ?_) | (with_reducible refine below_alloc_on ?_ _) | (with_reducible refine below_set_on ?_ (by first | (simp; done) | (simp; omega) | omega) _))), by (repeat (first | (with_reducible assumption) | (with_reducible exact box_new _ _ _) | ((with_reducible apply box_at); (first | (with_reducible rfl) | (simp <;> omega))) | (with_reducible apply Box.drew) | (with_reducible apply Box.drewN) | (with_reducible apply Box.near) | (with_reducible apply Box.alloc) | ((with_reducible apply box_far); (first | assumption | omega | (simp <;> omega))) | ((with_reducible apply Box.one_set); (with_reducible assumption)) | ((with_reducible apply Box.two_set); (with_reducible assumption)) | ((with_reducible apply Box.three_set); (with_reducible assumption)) | (with_reducible apply Box.set) | (simp only [List.size_toArray, List.length_cons, List.length_nil, Array.size_setIfInBounds] <;> omega)))⟩
    · go_wp2_with (fail)
      go_meet
      exact ⟨by rw [← hmo]; rfl, by (repeat (first | (with_reducible exact Below.refl _ _) | (with_reducible assumption) | (with_reducible refine Near.up _ ?_) | (with_reducible refine Below.drew ?_) | (with_reducible refine below_alloc_on ?_ _) | (with_reducible refine below_set_on ?_ (by first | (simp; done) | (simp; omega) | omega) _))), by (repeat (first | (with_reducible assumption) | (with_reducible exact box_new _ _ _) | ((with_reducible apply box_at); (first | (with_reducible rfl) | (simp <;> omega))) | (with_reducible apply Box.drew) | (with_reducible apply Box.drewN) | (with_reducible apply Box.near) | (with_reducible apply Box.alloc) | ((with_reducible apply box_far); (first | assumption | omega | (simp <;> omega))) | ((with_reducible apply Box.one_set); (with_reducible assumption)) | ((with_reducible apply Box.two_set); (with_reducible assumption)) | ((with_reducible apply Box.three_set); (with_reducible assumption)) | (with_reducible apply Box.set) | (simp only [List.size_toArray, List.length_cons, List.length_nil, Array.size_setIfInBounds] <;> omega)))⟩
  case rest =>
    obtain ⟨rfl, A1, P1⟩ := hcut
    clear A0 hR hkk HS t2
    have hmo2 : mo = 3 ∨ mo = 4 := by rw [← hmo]; split <;> simp
    have HMO := Lib.hid hmo2
    clear hmo hmo2
    obtain ⟨P, hP⟩ : ∃ P, W.heap.size + 1 = P := ⟨_, rfl⟩
    have oP : W.heap.size ≤ P := by omega
    rw [hP] at P1
    simp only [hP]
    clear hP
    have HF := Lib.hid (fun w => g_fresh 0 0 0 0 0 0 0 none 0 0 w)
    go_wp2_with (fail)
    refine (HF.out _).mono ?_
    rintro e w2 ⟨rfl, hb⟩
    have A2 := below_call A1 hb
    have P2 := P1.below hb
    clear hb A1 P1
    go_upto_region 10 with (fail)
    refine at_world (fun w => Below W.heap.size W w ∧ Box w P #[.int .i64 R, .int .i64 100, .int .i64 f] ∧ Box w w2.heap.size #[.int .i64 0, .int .i64 0, .int .i64 0, .int .i64 0, .int .i64 0, .int .i64 0, .slice none 0 0, .int .i64 0]) ⟨by (repeat (first | (with_reducible exact Below.refl _ _) | (with_reducible assumption) | (with_reducible refine Near.up _ ?_) | (with_reducible refine Below.drew ?_) | (with_reducible refine below_alloc_on ?_ _) | (with_reducible refine below_set_on ?_ (by first | (simp; done) | (simp; omega) | omega) _))), by (repeat (first | (with_reducible assumption) | (with_reducible exact box_new _ _ _) | ((with_reducible apply box_at); (first | (with_reducible rfl) | (simp <;> omega))) | (with_reducible apply Box.drew) | (with_reducible apply Box.drewN) | (with_reducible apply Box.near) | (with_reducible apply Box.alloc) | ((with_reducible apply box_far); (first | assumption | omega | (simp <;> omega))) | ((with_reducible apply Box.one_set); (with_reducible assumption)) | ((with_reducible apply Box.two_set); (with_reducible assumption)) | ((with_reducible apply Box.three_set); (with_reducible assumption)) | (with_reducible apply Box.set) | (simp only [List.size_toArray, List.length_cons, List.length_nil, Array.size_setIfInBounds] <;> omega))), box_cast (by (repeat (first | (with_reducible assumption) | (with_reducible exact box_new _ _ _) | ((with_reducible apply box_at); (first | (with_reducible rfl) | (simp <;> omega))) | (with_reducible apply Box.drew) | (with_reducible apply Box.drewN) | (with_reducible apply Box.near) | (with_reducible apply Box.alloc) | ((with_reducible apply box_far); (first | assumption | omega | (simp <;> omega))) | ((with_reducible apply Box.one_set); (with_reducible assumption)) | ((with_reducible apply Box.two_set); (with_reducible assumption)) | ((with_reducible apply Box.three_set); (with_reducible assumption)) | (with_reducible apply Box.set) | (simp only [List.size_toArray, List.length_cons, List.length_nil, Array.size_setIfInBounds] <;> omega)))) (by first | rfl | simp)⟩ ?_
    have hPg := P2.1
    clear A2 P2
    rintro w1 ⟨A1, P1, G1⟩
    generalize w2.heap.size = g at *
    obtain ⟨z, hz⟩ : ∃ z, w1.heap.size = z := ⟨_, rfl⟩
    have gz : g < z := by have := G1.1; omega
    have Pz : P < z := by omega
    have npg : ¬ P = g := by omega
    have ngp : ¬ g = P := by omega
    have HZ := Lib.hid (Nat.le_of_eq hz.symm)
    have HA1 := Lib.hid A1
    have HP1 := Lib.hid P1
    have HG1 := Lib.hid G1
    clear A1 P1 G1 hz
    go_wp2
    go_loopg [12, 13, 14, 51] n (fun gk t va lt i wr => ∃ (k : Nat) (T : Int) (L K : List Int) (lat : Bool) (B : Option Addr) (d : Nat) (d0 d1 l0 l1 u0 u1 la : Int), k ≤ n ∧ gk = n - k ∧ i = .int .i64 k ∧ t = .int .i64 T ∧ lt = .bool lat ∧ 0 ≤ T ∧ T ≤ 260 * k ∧ L.length = k ∧ Enough 6000 m L K T ∧
      wr.ownsRow z 3 1 va L.length (L.map (Value.int .i64)) ∧ (∀ b o, B = some ⟨b, o, none⟩ → some b ≠ va.ownBlock) ∧ z ≤ wr.heap.size ∧ Below W.heap.size W wr ∧ Box wr P #[.int .i64 R, .int .i64 100, .int .i64 f] ∧
      Box wr g #[.int .i64 d0, .int .i64 d1, .int .i64 l0, .int .i64 l1, .int .i64 u0, .int .i64 u1, .slice B K.length d, .int .i64 la] ∧ Ints wr B K.length K ∧ K.length ≤ d ∧ bitI la 1 = lat)
    case atStart => exact ⟨0, 0, [], [], false, none, 0, 0, 0, 0, 0, 0, 0, 0, Nat.zero_le _, rfl, rfl, rfl, rfl, by omega, by omega, rfl, Enough.nil 6000 m, World.ownsRow_nil _ _ _ _, fun b o h => (by cases h), HZ.out, HA1.out, HP1.out, HG1.out, ⟨rfl, fun h => absurd h (by simp)⟩, by simp, by decide⟩
    case round =>
      clear HZ HA1 HP1 HG1
      obtain ⟨k, T, L, K, lat, B, d, d0, d1, l0, l1, u0, u1, la, hk, hgk, rfl, rfl, rfl, T0, T1, hL, hE, hoa, hne, hsz, A2, P2, G2, hiK, hd, hla⟩ := hrel
      have LL := Lib.hid hL
      have HE := Lib.hid hE
      have hKl := hE.len
      have hLb : L.length ≤ 300 := by omega
      by_cases hlt : k < n
      · obtain ⟨b, off, rfl, hbs, hcell⟩ := HI.out.at_ hlt
        have hck := (A2.cell (p := ⟨b, off + k, none⟩) hbs).trans hcell
        obtain ⟨s0, s1⟩ := HX.out k hlt
        clear hcell
        generalize xs.getD k 0 = s at *
        obtain ⟨t', ht'⟩ : ∃ t' : Int, T + (5 + s) = t' := ⟨_, rfl⟩
        have v0 : 0 ≤ t' := by omega
        have v1 : t' ≤ 260 * (k + 1) := by omega
        have HOA := Lib.hid hoa
        have HNE := Lib.hid hne
        have HA := Lib.hid A2
        have HP := Lib.hid P2
        have HG := Lib.hid G2
        have HK := Lib.hid hiK
        have HGK := Lib.hid hgk
        have HE2 := Lib.hid (HE.out.next (t' := t') (by omega) v0 (by omega) (by omega) (by omega) (by omega))
        clear hE hoa hne hL A2 P2 G2 hiK hgk HE
        go_wp2_with (at_builtin; refine app_int rfl _ _ rfl t' rfl rfl HOA.out hsz (by omega) ?_)
        intro va w2 hoa hg
        have Bz : Below z _ w2 := ((Below.refl z _).alloc hsz _).grown hg (by have := hsz; simp; omega) (fun g hg => by have := (HOA.out.lt g (by simpa [LL.out] using hg)).1; omega)
        have A2 : Below W.heap.size W w2 := Below.trans HA.out (Bz.mono (by omega))
        have P2 := box_in HP.out Bz Pz
        have G2 := box_in HG.out Bz gz
        have I2 := ints_grown (HK.out.below ((Below.refl _ _).alloc (Nat.le_refl _) _)) hg HNE.out
        have hsz2 : z ≤ w2.heap.size := Nat.le_trans hsz Bz.size
        obtain ⟨L', hL'⟩ : ∃ L', L ++ [t'] = L' := ⟨_, rfl⟩
        have hl' : L'.length = k + 1 := by rw [← hL']; simp [LL.out]
        have hoa' : w2.ownsRow z 3 1 va (k + 1) (L'.map (Value.int .i64)) := by rw [← hL']; simpa [LL.out] using hoa
        have hE' := HE2.out
        rw [hL'] at hE'
        obtain ⟨Z, hZ⟩ : ∃ Z, pushL (nearL K t' 6000) ((m : Int) + 1) t' = Z := ⟨_, rfl⟩
        rw [hZ] at hE'
        have HE' := Lib.hid hE'
        have HZ := Lib.hid hZ
        have hpl := hE'.len
        have LL' := Lib.hid hl'
        obtain ⟨BA, dA, rfl, hdA⟩ := own_form hoa'
        have HOA' := Lib.hid hoa'
        have HIA := Lib.hid (Ints.of_own hoa' hl')
        have HA := Lib.hid A2
        have HP := Lib.hid P2
        have HG := Lib.hid G2
        have HK := Lib.hid I2
        have hbnd := Lib.hid (show ∀ j : Nat, j < k + 1 → 0 ≤ L'.getD j 0 ∧ L'.getD j 0 ≤ t' from fun j hj => HE'.out.bd j (by have := LL'.out; omega))
        clear hoa hoa' hg hL' hl' hE' hZ HE2 HOA HNE hck hsz ht' A2 P2 G2 I2 Bz hdA
        go_wp2
        go_loop [16, 68] (fun s i => ∃ j : Nat, j ≤ k + 1 ∧ s = .int .i64 (cntI (L'.take j) t' 6000) ∧ i = .int .i64 j) (fun _ i => k + 1 - (intOf i).toNat)
        case atStart => exact ⟨0, by omega, rfl, rfl⟩
        case round =>
          obtain ⟨j, hj, rfl, rfl⟩ := hrel
          by_cases hjl : j < k + 1
          · obtain ⟨b', off', rfl, _, hcx⟩ := HIA.out.at_ hjl
            obtain ⟨x0, x1⟩ := hbnd.out j hjl
            have e1 := cnt_step L' t' 6000 j (by have := LL'.out; omega)
            have e2 := cnt_bd (L'.take j) t' 6000
            rw [List.length_take, LL'.out] at e2
            obtain ⟨c0, c1⟩ : 0 ≤ cntI (L'.take j) t' 6000 ∧ cntI (L'.take j) t' 6000 ≤ j := by omega
            rw [inV_of x0 (by omega) (by omega) (by omega) (by omega) (by omega)] at e1
            have E1 := Lib.hid e1
            clear e1 e2
            generalize L'.getD j 0 = x at *
            generalize cntI (L'.take j) t' 6000 = C at *
            by_cases h2 : t' - x < 6000
            · have E2 := Lib.hid (E1.out.trans (if_pos (by simp; omega)))
              clear E1
              go_wp2
              go_round
              case rel => exact ⟨j + 1, by omega, by rw [E2.out], by go_num⟩
              case measure => simp [intOf]; omega
            · have E2 := Lib.hid (E1.out.trans (if_neg (by simp; omega)))
              clear E1
              go_wp2
              go_round
              case rel => exact ⟨j + 1, by omega, by rw [E2.out], by go_num⟩
              case measure => simp [intOf]; omega
          · obtain rfl : j = k + 1 := by omega
            have e3 : L'.take (k + 1) = L' := List.take_of_length_le (by have := LL'.out; omega)
            rw [e3]
            have hcb := cnt_bd L' t' 6000
            rw [LL'.out] at hcb
            obtain ⟨c0, c1⟩ := hcb
            have hT := HE'.out.tells (now := t') (by omega) (by omega) (by omega) (by omega) (by omega)
            have hdec : decide ((m : Int) < cntI Z t' 6000) = decide ((m : Int) < cntI L' t' 6000) := by rw [decide_eq_decide]; omega
            have HDEC := Lib.hid hdec
            clear hT hdec
            generalize cntI L' t' 6000 = C at *
            obtain ⟨lw, hlw⟩ : ∃ lw, (lat || decide ((m : Int) < C)) = lw := ⟨_, rfl⟩
            have HLW := Lib.hid hlw
            clear hlw
            go_upto_region 25 with (fail)
            go_cut [14] (fun v wx => v = .bool lw ∧ wx = w2)
            case first =>
              cases lat
              · by_cases hC : (m : Int) < C
                · have tc : decide ((m : Int) < C) = true := decide_eq_true hC
                  go_wp2
                  go_meet
                  exact ⟨by rw [← HLW.out, tc]; rfl, rfl⟩
                · have tc : decide ((m : Int) < C) = false := decide_eq_false hC
                  go_wp2
                  go_meet
                  exact ⟨by rw [← HLW.out, tc]; rfl, rfl⟩
              · go_wp2
                go_meet
                exact ⟨by rw [← HLW.out]; rfl, rfl⟩
            case rest =>
              obtain ⟨rfl, rfl⟩ := hcut
              go_upto_region 26 with (fail)
              refine at_world (fun w => z ≤ w.heap.size ∧ Below W.heap.size W w ∧ Box w P #[.int .i64 R, .int .i64 100, .int .i64 f] ∧ Box w g #[.int .i64 d0, .int .i64 d1, .int .i64 l0, .int .i64 l1, .int .i64 u0, .int .i64 u1, .slice B K.length d, .int .i64 la] ∧ Ints w B K.length K ∧ w.ownsRow z 3 1 (.slice BA (k + 1) dA) (k + 1) (L'.map (Value.int .i64))) ⟨hsz2, HA.out, HP.out, HG.out, HK.out, HOA'.out⟩ ?_
              clear HA HP HG HK HOA' HIA hsz2
              rintro w4 ⟨hsz2, A4, P4, G4, hi, hoa⟩
              have HOA := Lib.hid hoa
              have HSZ := Lib.hid hsz2
              clear hoa hsz2
              obtain ⟨kl, hkl⟩ : ∃ kl, lkF t' mo R f = kl := ⟨_, rfl⟩
              have hkc : lkC kl = #[.int .i64 t', .int .i64 mo, .int .i64 R, .int .i64 100, .int .i64 f, .bool true, .bool false, .bool false, .bool false, .int .i64 0, .int .i64 0, .int .i64 4000, .int .i64 0, .bool false, .int .i64 0, .bool false, .int .i64 0, .int .i64 0, .bool false, .int .i64 0, .bool false, .bool false, .bool false] := by rw [← hkl]; rfl
              have ka : kl.ak = false := by rw [← hkl]; rfl
              have km : kl.m = 3 ∨ kl.m = 4 := by rw [← hkl]; exact HMO.out
              have hZZ : pnL K kl.t kl.dr (liV kl.r kl.s) = Z := by
                rw [← hkl]
                show (if true = true then pushL (nearL K t' 6000) (pcV (liV R f) + 1) t' else _) = Z
                rw [if_pos rfl, HLI.out, pc_in (by omega) (by omega)]
                exact HZ.out
              have hho : hoB kl.r kl.s = true := by rw [← hkl]; exact HHO.out
              have hov : overB Z kl.t 6000 (pcV (liV kl.r kl.s)) = decide ((m : Int) < C) := by
                rw [← hkl]
                show decide (pcV (liV R f) < cntI Z t' 6000) = _
                rw [HLI.out, pc_in (by omega) (by omega)]
                exact HDEC.out
              have hs := fun w hi => g_step B K.length d K d0 d1 l0 l1 u0 u1 la kl w hi hd (by omega) _ hZZ _ rfl _ rfl
              have hLA : bitI (laV la (heV kl Z (drA d0 d1 kl) (drB d0 d1 kl) (loS l0 (inB kl.m) kl.dr) (loW l1 (inB kl.m) (svB kl)) (poT u0 kl.ti) (poB u1 kl.ba)) kl) 1 = lw := by
                rw [la_bit1 _ _ kl ka km, he_is, hla, hho, hov, Bool.true_and]
                exact HLW.out
              generalize laV la (heV kl Z (drA d0 d1 kl) (drB d0 d1 kl) (loS l0 (inB kl.m) kl.dr) (loW l1 (inB kl.m) (svB kl)) (poT u0 kl.ti) (poB u1 kl.ba)) kl = LA at hs hLA
              generalize heV kl Z (drA d0 d1 kl) (drB d0 d1 kl) (loS l0 (inB kl.m) kl.dr) (loW l1 (inB kl.m) (svB kl)) (poT u0 kl.ti) (poB u1 kl.ba) = HH at hs
              simp only [hkc] at hs
              generalize drA d0 d1 kl = D0 at hs
              generalize drB d0 d1 kl = D1 at hs
              generalize loS l0 (inB kl.m) kl.dr = L0 at hs
              generalize loW l1 (inB kl.m) (svB kl) = L1 at hs
              generalize poT u0 kl.ti = U0 at hs
              generalize poB u1 kl.ba = U1 at hs
              have HS := Lib.hid hs
              have HI4 := Lib.hid hi
              have h1 : (bits .and .i64 LA 2 != 0) = lw := by rw [← hLA]; exact h_bit LA 1 (by omega)
              have HLA := Lib.hid hLA
              have hpl2 : Z.length * 8 ≤ 140737488351232 := by omega
              have HHK := Lib.hid HGK.out
              clear hs hi hkl hkc ka km hZZ hho hov hLA hla
              obtain ⟨zn, hzn⟩ : ∃ zn, Z.length = zn := ⟨_, rfl⟩
              have HZN := Lib.hid hzn
              clear hzn
              have cp := P4.2.1
              have lp := P4.1
              have cg := G4.2.1
              have lg := G4.1
              go_wp2_with (fail)
              refine (HS.out _ HI4.out).mono ?_
              rintro e w5 ⟨B', d', rfl, hd', hi', hnb, hb⟩
              have A5 := below_call A4 hb
              have P5 := P4.below hb
              have G5 := G4.below hb
              have s5 : z ≤ w5.heap.size := Nat.le_trans HSZ.out hb.size
              have O5 := own_below HOA.out hb
              have hne : ∀ b o, B' = some ⟨b, o, none⟩ → b ≠ g := fun b o e => by have := hnb b o e; omega
              have hno : Hid (∀ b o, B' = some ⟨b, o, none⟩ → some b ≠ (Value.slice BA (k + 1) dA).ownBlock) := Lib.hid fun b o e e2 => by
                have q1 := hnb b o e
                have q2 := (HOA.out.lt b e2.symm).2
                omega
              have hi8 := Lib.hid (ints_set (ints_set (ints_set (ints_set (ints_set (ints_set (ints_set (ints_set (hi') hne 0 (.int .i64 D0)) hne 1 (.int .i64 D1)) hne 2 (.int .i64 L0)) hne 3 (.int .i64 L1)) hne 4 (.int .i64 U0)) hne 5 (.int .i64 U1)) hne 6 (.slice B' Z.length d')) hne 7 (.int .i64 LA))
              have G8 := Lib.hid (Box.eight_set G5 (.int .i64 D0) (.int .i64 D1) (.int .i64 L0) (.int .i64 L1) (.int .i64 U0) (.int .i64 U1) (.slice B' Z.length d') (.int .i64 LA))
              have O8 := Lib.hid (ownsRow_setCell_below (ownsRow_setCell_below (ownsRow_setCell_below (ownsRow_setCell_below (ownsRow_setCell_below (ownsRow_setCell_below (ownsRow_setCell_below (ownsRow_setCell_below O5 (a := ⟨g, 0, none⟩) gz (.int .i64 D0)) (a := ⟨g, 1, none⟩) gz (.int .i64 D1)) (a := ⟨g, 2, none⟩) gz (.int .i64 L0)) (a := ⟨g, 3, none⟩) gz (.int .i64 L1)) (a := ⟨g, 4, none⟩) gz (.int .i64 U0)) (a := ⟨g, 5, none⟩) gz (.int .i64 U1)) (a := ⟨g, 6, none⟩) gz (.slice B' Z.length d')) (a := ⟨g, 7, none⟩) gz (.int .i64 LA))
              have HS5 := Lib.hid s5
              clear hb A4 P4 G4 cp lp cg lg hnb hi' hne HI4 HS HOA HSZ O5 s5
              have cg := G5.2.1
              have lg := G5.1
              have fg := G5.2.2
              go_upto_region 27 with (fail)
              refine at_world (fun w => z ≤ w.heap.size ∧ Below W.heap.size W w ∧ Box w P #[.int .i64 R, .int .i64 100, .int .i64 f] ∧ Box w g #[.int .i64 D0, .int .i64 D1, .int .i64 L0, .int .i64 L1, .int .i64 U0, .int .i64 U1, .slice B' Z.length d', .int .i64 LA] ∧ Ints w B' Z.length Z ∧ w.ownsRow z 3 1 (.slice BA (k + 1) dA) (k + 1) (L'.map (Value.int .i64))) ⟨by simp only [size_setCell]; exact HS5.out, by (repeat (first | (with_reducible exact Below.refl _ _) | (with_reducible assumption) | (with_reducible refine Near.up _ ?_) | (with_reducible refine Below.drew ?_) | (with_reducible refine below_alloc_on ?_ _) | (with_reducible refine below_set_on ?_ (by first | (simp; done) | (simp; omega) | omega) _))), by (repeat (first | (with_reducible assumption) | (with_reducible exact box_new _ _ _) | ((with_reducible apply box_at); (first | (with_reducible rfl) | (simp <;> omega))) | (with_reducible apply Box.drew) | (with_reducible apply Box.drewN) | (with_reducible apply Box.near) | (with_reducible apply Box.alloc) | ((with_reducible apply box_far); (first | assumption | omega | (simp <;> omega))) | ((with_reducible apply Box.one_set); (with_reducible assumption)) | ((with_reducible apply Box.two_set); (with_reducible assumption)) | ((with_reducible apply Box.three_set); (with_reducible assumption)) | (with_reducible apply Box.set) | (simp only [List.size_toArray, List.length_cons, List.length_nil, Array.size_setIfInBounds] <;> omega))), G8.out, hi8.out, O8.out⟩ ?_
              clear A5 P5 G5 G8 hi8 O8 cg lg fg HS5
              rintro w6 ⟨S6, A6, P6, G6, hi6, O6⟩
              have cg := G6.2.1
              have lg := G6.1
              have HS6 := Lib.hid S6
              have HA6 := Lib.hid A6
              have HP6 := Lib.hid P6
              have HG6 := Lib.hid G6
              have HI6 := Lib.hid hi6
              have HO6 := Lib.hid O6
              clear S6 A6 P6 G6 hi6 O6
              go_wp2
              go_roundg (n - (k + 1))
              case measure => have := HGK.out; omega
              case rel => exact ⟨k + 1, t', L', Z, lw, B', d', D0, D1, L0, L1, U0, U1, LA, by omega, rfl, by go_num, rfl, rfl, v0, by omega, LL'.out, HE'.out, by rw [LL'.out]; exact HO6.out, hno.out, HS6.out, HA6.out, HP6.out, HG6.out, HI6.out, hd', HLA.out⟩
      · have hkn : k = n := by omega
        have t1 : decide ((k : Int) < (n : Int)) = false := by simp; omega
        have HA := Lib.hid A2
        clear hE hoa hne A2 P2 G2 hiK hgk
        go_wp2_with (go_at_call 7; refine (law35_awake _).mono ?_; rintro e w' ⟨rfl, hb⟩)
        all_goals go_ret
        all_goals exact ⟨rfl, below_call HA.out hb⟩

set_option maxRecDepth 100000 in
theorem lifted (os : Os) (started : os.Started) (H : Type) (enc : TypeId × Value → H) :
    ReturnsInHanded {} Try.checked os 4 .any (Rows.guardFreeSpec.pre6 enc Try.prog Try.f4 Rows.guardFreeRow.domain false) (Rows.guardFreeSpec.post enc Try.prog Try.f4 false true false false) := by
  refine law_lift started (by kernel_rfl) Try.func4 rfl rfl ?_ (by kernel_rfl)
    (ChangeSpec.witness6 (enc := enc) (C := Try.checked) false ⟨#[], #[.agg #[.int .u16 0, .int .u16 0], .slice none 0 0, .bool false], []⟩ 8 (by kernel_rfl) (by kernel_rfl) (by kernel_rfl) (by kernel_rfl)) ?_
  · intro ds hl
    match ds, hl with
    | [_, _, _], _ => exact ⟨rfl, rfl, rfl⟩
  · intro W base args ds p hval hA hlt hwt
    rw [Try.params4] at hA hval hwt
    obtain ⟨v0, vs0, d0, ds0, p0, q0, hargs, rfl, rfl, h0, r0⟩ := trodAll_cons hA
    obtain ⟨v1, vs1, d1, ds1, p1, q1, rfl, rfl, rfl, h1, r1⟩ := trodAll_cons r0
    obtain ⟨v2, vs2, d2, ds2, p2, q2, rfl, rfl, rfl, h2, r2⟩ := trodAll_cons r1
    obtain ⟨rfl, rfl, rfl⟩ := trodAll_nil r2
    obtain rfl : args = #[v0, v1, v2] := by cases args; simp_all
    obtain ⟨xs0, rfl, l0, w0⟩ := open_int_cells Try.underlying46 Try.underlying45 (by kernel_rfl) (by kernel_rfl) (hval 0 46 v0 rfl rfl) h0
    match xs0, l0, w0 with
    | [x0_0, x0_1], _, w0 =>
    have wt1 : ∀ n ∈ d1.weights Try.prog 47, n ≤ reachBytes := fun n hn => by
      have := List.all_eq_true.1 hwt n (DataW.weights_mem_each (j := 1) (t := 47) (d := d1) rfl rfl n hn)
      simpa using this
    have lt1 : ∀ x ∈ p1, x.block < W.heap.size := fun x hx => hlt x (by simp [hx])
    obtain ⟨A1, n1, c1, xs1, rfl, hi1, hc1, hr1, w1⟩ := open_nums_arg (nb := 1) Try.underlying47 Try.underlying5 (by kernel_rfl) (by kernel_rfl) (hval 1 47 v1 rfl rfl) h1 lt1 wt1
    obtain ⟨a2, rfl, rfl, rfl⟩ := open_bool Try.underlying4 (hval 2 4 v2 rfl rfl) h2
    exact walk W x0_0 (w0 _ (by simp)) x0_1 (w0 _ (by simp)) A1 n1 c1 xs1 hi1 hc1 hr1 w1 a2

theorem over : Rows.guardFreeRow.holds Try.pinned (OpenSpec.ofChange Rows.guardFreeSpec) :=
  OpenClaim.holds_of_wide 4 Try.f4 rfl rfl rfl rfl rfl rfl rfl ⟨rfl, rfl, rfl, rfl, rfl⟩ rfl rfl rfl rfl rfl (by kernel_rfl) Try.func4 (by kernel_rfl)
    (of_decide_eq_true (by kernel_rfl)) (by unfold Func.isWrapper; first | (rw [if_pos (by decide +kernel)]; kernel_rfl) | (rw [if_neg (by decide +kernel)]; exact ⟨rfl, rfl⟩))
    (fun os started H enc _ => lifted os started H enc)

theorem proved : Rows.GuardFreeSaid := over
#print axioms proved
end Go.Proofs.Ytknhejpomemilaa.guardFree
