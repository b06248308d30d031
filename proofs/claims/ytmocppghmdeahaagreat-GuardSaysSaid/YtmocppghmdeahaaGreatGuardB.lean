/- Contracts of package guard: the sum of what is held; the step. -/
import Derived.Test.YtmocppghmdeahaaGreatGuardA
import Derived.Test.YtmocppghmdeahaaGreatLoose
import Derived.Deep.LoopGhost
namespace Go.Proofs.YtmocppghmdeahaaGreat
open Go.RowKit
set_option linter.unusedVariables false
set_option linter.unusedSimpArgs false
set_option maxRecDepth 100000
attribute [local go_sem] cell_set_ite Near.cell Near.frozen
attribute [local go_sem ↓] Go.wp_at_zero Go.wp_at_succ

/-- Those of the hazards that are held. -/
def smV (l : List (Int × Bool)) : Int := l.foldl (fun a x => if x.2 = true then bits .or .i64 a x.1 else a) 0
theorem sm_snoc (l : List (Int × Bool)) (x : Int × Bool) : smV (l ++ [x]) = if x.2 = true then bits .or .i64 (smV l) x.1 else smV l := by
  unfold smV; rw [List.foldl_append]; rfl
theorem take_snoc2 {l : List (Int × Bool)} {k : Nat} (h : k < l.length) : l.take (k + 1) = l.take k ++ [l.getD k (0, false)] := by
  rw [List.take_succ_eq_append_getElem h, List.getD_eq_getElem?_getD, List.getElem?_eq_getElem h]; rfl

set_option maxHeartbeats 2000000 in
theorem g_summed (g : Nat) (l : List (Int × Bool)) (n c : Nat) (hn : l.length = n) (h100 : n ≤ 100) (w : World) (hg : g < w.heap.size)
    (hc : ∀ i, i < n → w.cell? ⟨g, i * 2, none⟩ = some (.int .i64 (l.getD i (0, false)).1) ∧ w.cell? ⟨g, i * 2 + 1, none⟩ = some (.bool (l.getD i (0, false)).2)) :
    Calls Tryz.prog 21 #[.slice (some ⟨g, 0, none⟩) n c] w fun e w' => e = .returned (.int .i64 (smV l)) ∧ Below w.heap.size w w' := by
  have HC := Lib.hid hc
  have HN := Lib.hid hn
  clear hc hn
  go_enter Tryz.func21, Tryz.ntmps21
  go_wp2
  go_loopg [3, 8] n (fun gk v i wr => ∃ k : Nat, k ≤ n ∧ gk = n - k ∧ i = .int .i64 k ∧ v = .int .i64 (smV (l.take k)) ∧ Below w.heap.size w wr)
  case atStart => exact ⟨0, by omega, rfl, rfl, rfl, Below.refl _ _⟩
  case round =>
    obtain ⟨k, hk, rfl, rfl, rfl, A1⟩ := hrel
    have HA := Lib.hid A1
    by_cases hlt : k < n
    · have HT := Lib.hid (sm_snoc (l.take k) (l.getD k (0, false)))
      have HK := Lib.hid (take_snoc2 (l := l) (k := k) (by rw [HN.out]; exact hlt))
      obtain ⟨c0, c1⟩ := HC.out k hlt
      have c0 := (A1.cell (p := ⟨g, k * 2, none⟩) hg).trans c0
      have c1 := (A1.cell (p := ⟨g, k * 2 + 1, none⟩) hg).trans c1
      have hg2 : g < wr.heap.size := Nat.lt_of_lt_of_le hg A1.size
      clear A1
      generalize l.getD k (0, false) = x at *
      generalize smV (l.take k) = S at *
      cases hx : x.2
      all_goals
        rw [hx] at c1
        have HV := Lib.hid HT.out
        rw [hx] at HV
        go_wp2
        go_roundg (n - (k + 1))
        case measure => omega
        case rel => exact ⟨k + 1, by omega, rfl, by go_num, by rw [HK.out, HV.out]; first | rfl | (rw [if_neg (by simp)]), by have A1 := HA.out; (repeat (first | (with_reducible exact Below.refl _ _) | (with_reducible assumption) | (with_reducible refine Near.up _ ?_) | (with_reducible refine Below.drew ?_) | (with_reducible refine below_alloc_on ?_ _) | (with_reducible refine below_set_on ?_ (by first | (simp; done) | (simp; omega) | omega) _)))⟩
    · obtain rfl : k = n := by omega
      have HE := Lib.hid (show l.take k = l from List.take_of_length_le (by rw [HN.out]; omega))
      clear A1
      go_wp2
      all_goals go_ret
      all_goals exact ⟨by rw [HE.out]; rfl, HA.out⟩

theorem Box.eight_set {w : World} {g : Nat} {v0 v1 v2 v3 v4 v5 v6 v7 : Value} (h : Box w g #[v0, v1, v2, v3, v4, v5, v6, v7]) (x0 x1 x2 x3 x4 x5 x6 x7 : Value) :
    Box ((((((((w.setCell ⟨g, 0, none⟩ x0).setCell ⟨g, 1, none⟩ x1).setCell ⟨g, 2, none⟩ x2).setCell ⟨g, 3, none⟩ x3).setCell ⟨g, 4, none⟩ x4).setCell ⟨g, 5, none⟩ x5).setCell ⟨g, 6, none⟩ x6).setCell ⟨g, 7, none⟩ x7) g #[x0, x1, x2, x3, x4, x5, x6, x7] := by
  have h0 := box_cast (cs' := #[x0, v1, v2, v3, v4, v5, v6, v7]) (Box.set h (i := 0) (by simp) x0) rfl
  have h1 := box_cast (cs' := #[x0, x1, v2, v3, v4, v5, v6, v7]) (Box.set h0 (i := 1) (by simp) x1) rfl
  have h2 := box_cast (cs' := #[x0, x1, x2, v3, v4, v5, v6, v7]) (Box.set h1 (i := 2) (by simp) x2) rfl
  have h3 := box_cast (cs' := #[x0, x1, x2, x3, v4, v5, v6, v7]) (Box.set h2 (i := 3) (by simp) x3) rfl
  have h4 := box_cast (cs' := #[x0, x1, x2, x3, x4, v5, v6, v7]) (Box.set h3 (i := 4) (by simp) x4) rfl
  have h5 := box_cast (cs' := #[x0, x1, x2, x3, x4, x5, v6, v7]) (Box.set h4 (i := 5) (by simp) x5) rfl
  have h6 := box_cast (cs' := #[x0, x1, x2, x3, x4, x5, x6, v7]) (Box.set h5 (i := 6) (by simp) x6) rfl
  have h7 := box_cast (cs' := #[x0, x1, x2, x3, x4, x5, x6, x7]) (Box.set h6 (i := 7) (by simp) x7) rfl
  exact h7

/-- The drops of the last minute, behind a tick. -/
def pnL (xs : List Int) (t : Int) (dr : Bool) (li : Int) : List Int := if dr = true then pushL (nearL xs t 6000) (pcV li + 1) t else lastL xs 512
theorem pn_step (A : Option Addr) (n c : Nat) (xs : List Int) (t li : Int) (dr : Bool) (w : World) (h : Ints w A n xs) (hc : n ≤ c) (hn : n * 8 ≤ 140737488351232) :
    Calls Tryz.prog 20 #[.slice A n c, .int .i64 t, .bool dr, .int .i64 li] w (OwnInts w (pnL xs t dr li)) := by
  unfold pnL
  cases dr
  · rw [if_neg (by simp)]; exact pn_still A n c xs t li w h hc hn
  · rw [if_pos rfl]; exact pn_push A n c xs t li w h hn
/-- A list in a block of ints lies in none of another type. -/
theorem own_ints {w : World} {base m : Nat} {v : Value} {ys : List Int} (h : w.ownsRow base 3 1 v m (ys.map (Value.int .i64))) (hm : ys.length = m) : ∃ B d, v = .slice B m d ∧ m ≤ d ∧ Ints w B m ys ∧ m ≤ 9223372036854775807 ∧ (∀ b o, B = some ⟨b, o, none⟩ → base ≤ b) ∧
    ∀ q cs T, w.heap[q]? = some (.cells cs T (0, 0)) → T ≠ 3 → ∀ b o, B = some ⟨b, o, none⟩ → b ≠ q := by
  have h0 := h
  obtain ⟨B, d, he, hd, hi, _⟩ := NewInts.of_own h hm (Below.refl _ _)
  cases he
  refine ⟨B, d, by rw [hm], by rw [← hm]; exact hd, by rw [← hm]; exact hi, ?_, ?_, ?_⟩
  · rcases h0.2 with ⟨_, h1⟩ | ⟨g, cap, cur, _, _, _, h1, h2, _⟩
    · omega
    · unfold maxLen at h2; omega
  · rintro b o rfl
    rcases h0.2 with ⟨h1, _⟩ | ⟨g, cap, cur, hv, hg, _⟩
    · cases h1
    · cases hv; exact hg
  rintro q cs T hq hT b o rfl hbq
  rcases h0.2 with ⟨h1, _⟩ | ⟨g, cap, cur, hv, _, hg, _⟩
  · cases h1
  · cases hv
    subst hbq
    rw [hg] at hq
    cases hq
    exact hT rfl
theorem ints_set {w : World} {B : Option Addr} {m q : Nat} {ys : List Int} (h : Ints w B m ys) (hne : ∀ b o, B = some ⟨b, o, none⟩ → b ≠ q) (i : Nat) (v : Value) : Ints (w.setCell ⟨q, i, none⟩ v) B m ys := by
  refine ⟨h.1, fun h0 => ?_⟩
  obtain ⟨b, off, e, hlt, hc⟩ := h.2 h0
  refine ⟨b, off, e, by rw [size_setCell]; exact hlt, fun j hj => ?_⟩
  rw [World.cell?_setCell_other w _ _ v (fun e2 => hne b off e (congrArg Addr.block e2).symm)]
  exact hc j hj

/-- What is held. -/
def heV (k : Lk) (ys : List Int) (D0 D1 L0 L1 P0 P1 : Int) : Int :=
  smV [(1, k.st), (2, hoB k.r k.s && overB ys k.t 6000 (pcV (liV k.r k.s))), (4, fiB D0), (8, fiB D1), (16, miB L0 k), (32, dyB L1), (64, whB P0), (128, k.od), (256, whB P1), (512, k.sl), (1024, k.fa), (2048, k.ov)]

set_option maxHeartbeats 16000000 in
theorem g_step (A : Option Addr) (n c : Nat) (xs : List Int) (d0 d1 l0 l1 p0 p1 la : Int) (k : Lk) (w : World) (h : Ints w A n xs) (hc : n ≤ c) (hn : n * 8 ≤ 140737488351232)
    (ys0 : List Int) (hys0 : pnL xs k.t k.dr (liV k.r k.s) = ys0) (m : Nat) (hm : ys0.length = m) (HE : Int) (hHE : heV k ys0 (drA d0 d1 k) (drB d0 d1 k) (loS l0 (inB k.m) k.dr) (loW l1 (inB k.m) (svB k)) (poT p0 k.ti) (poB p1 k.ba) = HE) :
    Calls Tryz.prog 5 #[.agg #[.int .i64 d0, .int .i64 d1, .int .i64 l0, .int .i64 l1, .int .i64 p0, .int .i64 p1, .slice A n c, .int .i64 la], .agg (lkC k)] w fun e w' => ∃ B d, e = .returned (.tuple #[.agg #[.int .i64 (drA d0 d1 k), .int .i64 (drB d0 d1 k), .int .i64 (loS l0 (inB k.m) k.dr), .int .i64 (loW l1 (inB k.m) (svB k)), .int .i64 (poT p0 k.ti), .int .i64 (poB p1 k.ba), .slice B m d, .int .i64 (laV la HE k)], .int .i64 HE]) ∧ m ≤ d ∧ Ints w' B m ys0 ∧ (∀ b o, B = some ⟨b, o, none⟩ → w.heap.size ≤ b) ∧ Below w.heap.size w w' := by
  subst hys0
  have HLA := Lib.hid (fun w => g_latched la HE k w)
  generalize laV la HE k = LA at *
  have HX := Lib.hid (fun w => ds_limit_any k.r k.s w w (At.refl w))
  have HD := Lib.hid (fun w => g_drifted d0 d1 k w)
  have HI := Lib.hid (fun w => g_infuses k.m w)
  have HS := Lib.hid (fun w => g_starved k w)
  have HL := Lib.hid (fun w => lo_step l0 l1 (inB k.m) k.dr (svB k) w)
  have HP := Lib.hid (fun w => po_step p0 p1 k.ti k.ba w)
  have HN := Lib.hid (fun W (hb : Below w.heap.size w W) => pn_step A n c xs k.t (liV k.r k.s) k.dr W (h.below hb) hc hn)
  have HOV := Lib.hid (fun B m d w (hi : Ints w B m (pnL xs k.t k.dr (liV k.r k.s))) (hm : m ≤ 9223372036854775807) => pn_over B m d (pnL xs k.t k.dr (liV k.r k.s)) k.t (liV k.r k.s) w hi hm)
  have HF0 := Lib.hid (fun w => dr_fast (drA d0 d1 k) (drB d0 d1 k) w)
  have HF1 := Lib.hid (fun w => dr_slow (drA d0 d1 k) (drB d0 d1 k) w)
  have HMI := Lib.hid (fun w => g_missed (loS l0 (inB k.m) k.dr) (loW l1 (inB k.m) (svB k)) k w)
  have HDY := Lib.hid (fun w => lo_empty (loS l0 (inB k.m) k.dr) (loW l1 (inB k.m) (svB k)) w)
  have HT0 := Lib.hid (fun w => po_tilted (poT p0 k.ti) (poB p1 k.ba) w)
  have HT1 := Lib.hid (fun w => po_flat (poT p0 k.ti) (poB p1 k.ba) w)
  have HHE := Lib.hid hHE
  clear hHE
  unfold heV at HHE
  generalize miB (loS l0 (inB k.m) k.dr) k = mi at *
  generalize dyB (loW l1 (inB k.m) (svB k)) = dy at *
  generalize fiB (drA d0 d1 k) = f0 at *
  generalize fiB (drB d0 d1 k) = f1 at *
  generalize whB (poT p0 k.ti) = v0 at *
  generalize whB (poB p1 k.ba) = v1 at *
  generalize overB (pnL xs k.t k.dr (liV k.r k.s)) k.t 6000 (pcV (liV k.r k.s)) = ov at *
  unfold lkC at *
  generalize drA d0 d1 k = D0 at *
  generalize drB d0 d1 k = D1 at *
  generalize loS l0 (inB k.m) k.dr = L0 at *
  generalize loW l1 (inB k.m) (svB k) = L1 at *
  generalize poT p0 k.ti = P0 at *
  generalize poB p1 k.ba = P1 at *
  generalize liV k.r k.s = li at *
  generalize svB k = sv at *
  generalize inB k.m = im at *
  generalize pnL xs k.t k.dr li = ys at *
  generalize hoB k.r k.s = ho at *
  have HM := Lib.hid hm
  clear hm
  clear h
  go_enter Tryz.func5, Tryz.ntmps5
  go_wp2_with (fail)
  refine (HX.out _).mono ?_
  rintro e w1 ⟨rfl, hb⟩
  go_upto_region 2 with (fail)
  obtain ⟨g0, hg0⟩ : ∃ g0, w.heap.size = g0 := ⟨_, rfl⟩
  obtain ⟨k0, hk0⟩ : ∃ k0, w.heap.size + 1 = k0 := ⟨_, rfl⟩
  obtain ⟨r0, hr0⟩ : ∃ r0, w.heap.size + 1 + 1 = r0 := ⟨_, rfl⟩
  refine at_world (fun W => Bx w w.heap.size #[.int .i64 d0, .int .i64 d1, .int .i64 l0, .int .i64 l1, .int .i64 p0, .int .i64 p1, .slice A n c, .int .i64 la] W ∧ Bx w (w.heap.size + 1) #[.int .i64 k.t, .int .i64 k.m, .int .i64 k.r, .int .i64 k.v, .int .i64 k.s, .bool k.dr, .bool k.sh, .bool k.st, .bool k.fa, .int .i64 k.ad, .int .i64 k.ti, .int .i64 k.ba, .int .i64 k.en, .bool k.od, .int .i64 k.ke, .bool k.wr, .int .i64 k.bd, .int .i64 k.ra, .bool k.kn, .int .i64 k.ou, .bool k.sl, .bool k.ov, .bool k.ak] W ∧ Bx w (w.heap.size + 1 + 1) #[.int .i64 0, .int .i64 0, .int .i64 0, .int .i64 0, .int .i64 0, .int .i64 0, .slice none 0 0, .int .i64 0] W) ?_ ?_
  · have A0 := Below.refl w.heap.size w
    refine ⟨⟨Box.below (by (repeat (first | (with_reducible assumption) | (with_reducible exact box_new _ _ _) | ((with_reducible apply box_at); (first | (with_reducible rfl) | (simp <;> omega))) | (with_reducible apply Box.drew) | (with_reducible apply Box.drewN) | (with_reducible apply Box.near) | (with_reducible apply Box.alloc) | ((with_reducible apply box_far); (first | assumption | omega | (simp <;> omega))) | ((with_reducible apply Box.one_set); (with_reducible assumption)) | ((with_reducible apply Box.two_set); (with_reducible assumption)) | ((with_reducible apply Box.three_set); (with_reducible assumption)) | (with_reducible apply Box.set) | (simp only [List.size_toArray, List.length_cons, List.length_nil, Array.size_setIfInBounds] <;> omega)))) hb, below_call (by (repeat (first | (with_reducible exact Below.refl _ _) | (with_reducible assumption) | (with_reducible refine Near.up _ ?_) | (with_reducible refine Below.drew ?_) | (with_reducible refine below_alloc_on ?_ _) | (with_reducible refine below_set_on ?_ (by first | (simp; done) | (simp; omega) | omega) _)))) hb, by omega⟩, ⟨Box.below (by (repeat (first | (with_reducible assumption) | (with_reducible exact box_new _ _ _) | ((with_reducible apply box_at); (first | (with_reducible rfl) | (simp <;> omega))) | (with_reducible apply Box.drew) | (with_reducible apply Box.drewN) | (with_reducible apply Box.near) | (with_reducible apply Box.alloc) | ((with_reducible apply box_far); (first | assumption | omega | (simp <;> omega))) | ((with_reducible apply Box.one_set); (with_reducible assumption)) | ((with_reducible apply Box.two_set); (with_reducible assumption)) | ((with_reducible apply Box.three_set); (with_reducible assumption)) | (with_reducible apply Box.set) | (simp only [List.size_toArray, List.length_cons, List.length_nil, Array.size_setIfInBounds] <;> omega)))) hb, below_call (by (repeat (first | (with_reducible exact Below.refl _ _) | (with_reducible assumption) | (with_reducible refine Near.up _ ?_) | (with_reducible refine Below.drew ?_) | (with_reducible refine below_alloc_on ?_ _) | (with_reducible refine below_set_on ?_ (by first | (simp; done) | (simp; omega) | omega) _)))) hb, by omega⟩, ⟨Box.below (by (repeat (first | (with_reducible assumption) | (with_reducible exact box_new _ _ _) | ((with_reducible apply box_at); (first | (with_reducible rfl) | (simp <;> omega))) | (with_reducible apply Box.drew) | (with_reducible apply Box.drewN) | (with_reducible apply Box.near) | (with_reducible apply Box.alloc) | ((with_reducible apply box_far); (first | assumption | omega | (simp <;> omega))) | ((with_reducible apply Box.one_set); (with_reducible assumption)) | ((with_reducible apply Box.two_set); (with_reducible assumption)) | ((with_reducible apply Box.three_set); (with_reducible assumption)) | (with_reducible apply Box.set) | (simp only [List.size_toArray, List.length_cons, List.length_nil, Array.size_setIfInBounds] <;> omega)))) hb, below_call (by (repeat (first | (with_reducible exact Below.refl _ _) | (with_reducible assumption) | (with_reducible refine Near.up _ ?_) | (with_reducible refine Below.drew ?_) | (with_reducible refine below_alloc_on ?_ _) | (with_reducible refine below_set_on ?_ (by first | (simp; done) | (simp; omega) | omega) _)))) hb, by omega⟩⟩
  clear hb
  rintro w2 ⟨X0, X1, X2⟩
  rw [hr0] at X2
  rw [hk0] at X1
  rw [hg0] at X0
  simp only [hr0]
  simp only [hk0]
  simp only [hg0]
  have n1 : ¬ g0 = k0 := by omega
  have n2 : ¬ k0 = g0 := by omega
  have o0 : w.heap.size ≤ g0 := by omega
  have o1 : w.heap.size ≤ k0 := by omega
  have o2 : w.heap.size ≤ r0 := by omega
  have o3 : g0 < r0 := by omega
  have o4 : k0 < r0 := by omega
  have n3 : ¬ g0 = r0 := by omega
  have n4 : ¬ r0 = g0 := by omega
  have n5 : ¬ k0 = r0 := by omega
  have n6 : ¬ r0 = k0 := by omega
  go_cut [8] (fun v wx => ∃ q B d, v = .pointer (some ⟨q, 0, none⟩) ∧ m ≤ d ∧ m ≤ 9223372036854775807 ∧ (∀ b o, B = some ⟨b, o, none⟩ → b ≠ q ∧ b ≠ r0 ∧ w.heap.size ≤ b) ∧ Ints wx B m ys ∧ Bx w g0 #[.int .i64 d0, .int .i64 d1, .int .i64 l0, .int .i64 l1, .int .i64 p0, .int .i64 p1, .slice A n c, .int .i64 la] wx ∧ Bx w k0 #[.int .i64 k.t, .int .i64 k.m, .int .i64 k.r, .int .i64 k.v, .int .i64 k.s, .bool k.dr, .bool k.sh, .bool k.st, .bool k.fa, .int .i64 k.ad, .int .i64 k.ti, .int .i64 k.ba, .int .i64 k.en, .bool k.od, .int .i64 k.ke, .bool k.wr, .int .i64 k.bd, .int .i64 k.ra, .bool k.kn, .int .i64 k.ou, .bool k.sl, .bool k.ov, .bool k.ak] wx ∧ Bx w r0 #[.int .i64 0, .int .i64 0, .int .i64 0, .int .i64 0, .int .i64 0, .int .i64 0, .slice none 0 0, .int .i64 0] wx ∧ r0 < q ∧ Bx w q #[.int .i64 D0, .int .i64 D1, .int .i64 L0, .int .i64 L1, .int .i64 P0, .int .i64 P1, .slice B m d, .int .i64 0] wx)
  case first =>
    have HB_g0 : ∀ w', Below w2.drew.heap.size w2.drew w' → Box w' g0 #[.int .i64 d0, .int .i64 d1, .int .i64 l0, .int .i64 l1, .int .i64 p0, .int .i64 p1, .slice A n c, .int .i64 la] := fun w' h => (X0.drew.box).below h
    have HB_k0 : ∀ w', Below w2.drew.heap.size w2.drew w' → Box w' k0 #[.int .i64 k.t, .int .i64 k.m, .int .i64 k.r, .int .i64 k.v, .int .i64 k.s, .bool k.dr, .bool k.sh, .bool k.st, .bool k.fa, .int .i64 k.ad, .int .i64 k.ti, .int .i64 k.ba, .int .i64 k.en, .bool k.od, .int .i64 k.ke, .bool k.wr, .int .i64 k.bd, .int .i64 k.ra, .bool k.kn, .int .i64 k.ou, .bool k.sl, .bool k.ov, .bool k.ak] := fun w' h => (X1.drew.box).below h
    have HB_r0 : ∀ w', Below w2.drew.heap.size w2.drew w' → Box w' r0 #[.int .i64 0, .int .i64 0, .int .i64 0, .int .i64 0, .int .i64 0, .int .i64 0, .slice none 0 0, .int .i64 0] := fun w' h => (X2.drew.box).below h
    have HW : ∀ w', Below w2.drew.heap.size w2.drew w' → Below w.heap.size w w' := fun w' h => below_call X0.drew.bel h
    obtain ⟨cs, hcs⟩ : ∃ cs : Nat → Value, (fun i => match i with
      | 0 => .pointer (some ⟨g0, 0, none⟩)
      | 1 => .agg #[.int .i64 d0, .int .i64 d1]
      | 2 => .agg #[.int .i64 k.t, .int .i64 k.m, .int .i64 k.r, .int .i64 k.v, .int .i64 k.s, .bool k.dr, .bool k.sh, .bool k.st, .bool k.fa, .int .i64 k.ad, .int .i64 k.ti, .int .i64 k.ba, .int .i64 k.en, .bool k.od, .int .i64 k.ke, .bool k.wr, .int .i64 k.bd, .int .i64 k.ra, .bool k.kn, .int .i64 k.ou, .bool k.sl, .bool k.ov, .bool k.ak]
      | 3 => .agg #[.int .i64 D0, .int .i64 D1]
      | 4 => .pointer (some ⟨g0, 2, none⟩)
      | 5 => .agg #[.int .i64 l0, .int .i64 l1]
      | 6 => .pointer (some ⟨k0, 1, none⟩)
      | 7 => .int .i64 k.m
      | 8 => .bool im
      | 9 => .pointer (some ⟨k0, 5, none⟩)
      | 10 => .pointer (some ⟨k0, 5, none⟩)
      | 11 => .bool k.dr
      | 12 => .agg #[.int .i64 k.t, .int .i64 k.m, .int .i64 k.r, .int .i64 k.v, .int .i64 k.s, .bool k.dr, .bool k.sh, .bool k.st, .bool k.fa, .int .i64 k.ad, .int .i64 k.ti, .int .i64 k.ba, .int .i64 k.en, .bool k.od, .int .i64 k.ke, .bool k.wr, .int .i64 k.bd, .int .i64 k.ra, .bool k.kn, .int .i64 k.ou, .bool k.sl, .bool k.ov, .bool k.ak]
      | 13 => .bool sv
      | 14 => .agg #[.int .i64 L0, .int .i64 L1]
      | 15 => .pointer (some ⟨g0, 4, none⟩)
      | 16 => .agg #[.int .i64 p0, .int .i64 p1]
      | 17 => .pointer (some ⟨k0, 9, none⟩)
      | 18 => .pointer (some ⟨k0, 10, none⟩)
      | 19 => .int .i64 k.ti
      | 20 => .pointer (some ⟨k0, 9, none⟩)
      | 21 => .pointer (some ⟨k0, 11, none⟩)
      | 22 => .int .i64 k.ba
      | 23 => .agg #[.int .i64 P0, .int .i64 P1]
      | 24 => .pointer (some ⟨g0, 6, none⟩)
      | 25 => .slice A n c
      | 26 => .pointer (some ⟨k0, 0, none⟩)
      | 27 => .int .i64 k.t
      | 28 => .pointer (some ⟨k0, 5, none⟩)
      | 29 => .pointer (some ⟨k0, 5, none⟩)
      | 30 => .bool k.dr
      | 31 => .int .i64 li
      | _ => undef) = cs := ⟨_, rfl⟩
    have e0 : cs 0 = .pointer (some ⟨g0, 0, none⟩) := by rw [← hcs]; rfl
    have e1 : cs 1 = .agg #[.int .i64 d0, .int .i64 d1] := by rw [← hcs]; rfl
    have e2 : cs 2 = .agg #[.int .i64 k.t, .int .i64 k.m, .int .i64 k.r, .int .i64 k.v, .int .i64 k.s, .bool k.dr, .bool k.sh, .bool k.st, .bool k.fa, .int .i64 k.ad, .int .i64 k.ti, .int .i64 k.ba, .int .i64 k.en, .bool k.od, .int .i64 k.ke, .bool k.wr, .int .i64 k.bd, .int .i64 k.ra, .bool k.kn, .int .i64 k.ou, .bool k.sl, .bool k.ov, .bool k.ak] := by rw [← hcs]; rfl
    have e3 : cs 3 = .agg #[.int .i64 D0, .int .i64 D1] := by rw [← hcs]; rfl
    have e4 : cs 4 = .pointer (some ⟨g0, 2, none⟩) := by rw [← hcs]; rfl
    have e5 : cs 5 = .agg #[.int .i64 l0, .int .i64 l1] := by rw [← hcs]; rfl
    have e6 : cs 6 = .pointer (some ⟨k0, 1, none⟩) := by rw [← hcs]; rfl
    have e7 : cs 7 = .int .i64 k.m := by rw [← hcs]; rfl
    have e8 : cs 8 = .bool im := by rw [← hcs]; rfl
    have e9 : cs 9 = .pointer (some ⟨k0, 5, none⟩) := by rw [← hcs]; rfl
    have e10 : cs 10 = .pointer (some ⟨k0, 5, none⟩) := by rw [← hcs]; rfl
    have e11 : cs 11 = .bool k.dr := by rw [← hcs]; rfl
    have e12 : cs 12 = .agg #[.int .i64 k.t, .int .i64 k.m, .int .i64 k.r, .int .i64 k.v, .int .i64 k.s, .bool k.dr, .bool k.sh, .bool k.st, .bool k.fa, .int .i64 k.ad, .int .i64 k.ti, .int .i64 k.ba, .int .i64 k.en, .bool k.od, .int .i64 k.ke, .bool k.wr, .int .i64 k.bd, .int .i64 k.ra, .bool k.kn, .int .i64 k.ou, .bool k.sl, .bool k.ov, .bool k.ak] := by rw [← hcs]; rfl
    have e13 : cs 13 = .bool sv := by rw [← hcs]; rfl
    have e14 : cs 14 = .agg #[.int .i64 L0, .int .i64 L1] := by rw [← hcs]; rfl
    have e15 : cs 15 = .pointer (some ⟨g0, 4, none⟩) := by rw [← hcs]; rfl
    have e16 : cs 16 = .agg #[.int .i64 p0, .int .i64 p1] := by rw [← hcs]; rfl
    have e17 : cs 17 = .pointer (some ⟨k0, 9, none⟩) := by rw [← hcs]; rfl
    have e18 : cs 18 = .pointer (some ⟨k0, 10, none⟩) := by rw [← hcs]; rfl
    have e19 : cs 19 = .int .i64 k.ti := by rw [← hcs]; rfl
    have e20 : cs 20 = .pointer (some ⟨k0, 9, none⟩) := by rw [← hcs]; rfl
    have e21 : cs 21 = .pointer (some ⟨k0, 11, none⟩) := by rw [← hcs]; rfl
    have e22 : cs 22 = .int .i64 k.ba := by rw [← hcs]; rfl
    have e23 : cs 23 = .agg #[.int .i64 P0, .int .i64 P1] := by rw [← hcs]; rfl
    have e24 : cs 24 = .pointer (some ⟨g0, 6, none⟩) := by rw [← hcs]; rfl
    have e25 : cs 25 = .slice A n c := by rw [← hcs]; rfl
    have e26 : cs 26 = .pointer (some ⟨k0, 0, none⟩) := by rw [← hcs]; rfl
    have e27 : cs 27 = .int .i64 k.t := by rw [← hcs]; rfl
    have e28 : cs 28 = .pointer (some ⟨k0, 5, none⟩) := by rw [← hcs]; rfl
    have e29 : cs 29 = .pointer (some ⟨k0, 5, none⟩) := by rw [← hcs]; rfl
    have e30 : cs 30 = .bool k.dr := by rw [← hcs]; rfl
    have e31 : cs 31 = .int .i64 li := by rw [← hcs]; rfl
    clear hcs
    refine wp_region_loose 35 117 (by as_aux_lemma => kernel_rfl) (by as_aux_lemma => kernel_rfl) rfl (fun w w' => Below w.heap.size w w') (fun w => Below.refl _ _) (fun a b c h g => below_call h g)
      (looseD (fun i => if i = 32 then some fun v w' => w'.ownsRow w2.heap.size 3 1 v m (ys.map (Value.int .i64)) else if i = 33 then some fun v w' => ∃ x, v = .agg #[.int .i64 D0, .int .i64 D1, .int .i64 L0, .int .i64 L1, .int .i64 P0, .int .i64 P1, x, .int .i64 0] ∧ w'.ownsRow w2.heap.size 3 1 x m (ys.map (Value.int .i64)) else if i = 34 then some fun v w' => ∃ q, v = .pointer (some ⟨q, 0, none⟩) ∧ r0 < q ∧ Box w' q #[.int .i64 0, .int .i64 0, .int .i64 0, .int .i64 0, .int .i64 0, .int .i64 0, .slice none 0 0, .int .i64 0] ∧ w'.heap[q]? = some (.cells #[.int .i64 0, .int .i64 0, .int .i64 0, .int .i64 0, .int .i64 0, .int .i64 0, .slice none 0 0, .int .i64 0] 30 (0, 0)) else none) cs)
      (fun _ _ _ => True) (looseD_stable ?_) (fun _ _ _ _ _ _ _ _ => trivial) trivial ?_ ?_
    · intro i p hp v u u' h hE
      split at hp
      · cases hp; exact own_below h hE
      · split at hp
        · cases hp; obtain ⟨x, h1, h2⟩ := h; exact ⟨x, h1, own_below h2 hE⟩
        · split at hp
          · cases hp; obtain ⟨q, h1, h2, h3, h4⟩ := h; exact ⟨q, h1, h2, h3.below hE, (hE.block q h3.1).trans h4⟩
          · cases hp
    · simp only [List.take_succ_cons, List.take_zero]
      refine looseAll_cons (k := 1) rfl (fun a u L hE hev hkn _ _ => ?_) ?_
      · have kc : ∀ c, a.eval (.const c) = c := fun _ => rfl
        have kf : ∀ f, a.eval (.func f) = .func (.func f) #[] #[] := fun _ => rfl
        have t2 : a.eval (.tmp 2) = .pointer (some ⟨g0, 0, none⟩) := hev 2 (by kernel_rfl)
        exact loose_val rfl (v := .pointer (some ⟨g0, 0, none⟩)) (by generalize a.eval = ev at *; simp [go_sem, kc, kf, t2]) ⟨Below.refl _ _, e0.symm, trivial⟩
      refine looseAll_cons (k := 2) rfl (fun a u L hE hev hkn _ _ => ?_) ?_
      · have kc : ∀ c, a.eval (.const c) = c := fun _ => rfl
        have kf : ∀ f, a.eval (.func f) = .func (.func f) #[] #[] := fun _ => rfl
        have C_g0 := (HB_g0 u hE).2.1
        have t20 : a.eval (.tmp 20) = .pointer (some ⟨g0, 0, none⟩) := (hkn 0 (by kernel_rfl) : a.eval (.tmp 20) = cs 0).trans e0
        exact loose_val rfl (v := .agg #[.int .i64 d0, .int .i64 d1]) (by generalize a.eval = ev at *; simp [go_sem, kc, kf, t20, C_g0]) ⟨Below.refl _ _, e1.symm, trivial⟩
      refine looseAll_cons (k := 3) rfl (fun a u L hE hev hkn _ _ => ?_) ?_
      · have HBX := HB_k0 u hE
        have kc : ∀ c, a.eval (.const c) = c := fun _ => rfl
        have kf : ∀ f, a.eval (.func f) = .func (.func f) #[] #[] := fun _ => rfl
        have t3 : a.eval (.tmp 3) = .pointer (some ⟨k0, 0, none⟩) := hev 3 (by kernel_rfl)
        exact loose_load rfl _ _ rfl k0 t3 #[.int .i64 k.t, .int .i64 k.m, .int .i64 k.r, .int .i64 k.v, .int .i64 k.s, .bool k.dr, .bool k.sh, .bool k.st, .bool k.fa, .int .i64 k.ad, .int .i64 k.ti, .int .i64 k.ba, .int .i64 k.en, .bool k.od, .int .i64 k.ke, .bool k.wr, .int .i64 k.bd, .int .i64 k.ra, .bool k.kn, .int .i64 k.ou, .bool k.sl, .bool k.ov, .bool k.ak] _ HBX Tryz.underlying38 rfl (by kernel_rfl) ⟨Below.refl _ _, e2.symm, trivial⟩
      refine looseAll_cons (k := 4) rfl (fun a u L hE hev hkn _ _ => ?_) ?_
      · have kc : ∀ c, a.eval (.const c) = c := fun _ => rfl
        have kf : ∀ f, a.eval (.func f) = .func (.func f) #[] #[] := fun _ => rfl
        have t21 : a.eval (.tmp 21) = .agg #[.int .i64 d0, .int .i64 d1] := (hkn 1 (by kernel_rfl) : a.eval (.tmp 21) = cs 1).trans e1
        have t22 : a.eval (.tmp 22) = .agg #[.int .i64 k.t, .int .i64 k.m, .int .i64 k.r, .int .i64 k.v, .int .i64 k.s, .bool k.dr, .bool k.sh, .bool k.st, .bool k.fa, .int .i64 k.ad, .int .i64 k.ti, .int .i64 k.ba, .int .i64 k.en, .bool k.od, .int .i64 k.ke, .bool k.wr, .int .i64 k.bd, .int .i64 k.ra, .bool k.kn, .int .i64 k.ou, .bool k.sl, .bool k.ov, .bool k.ak] := (hkn 2 (by kernel_rfl) : a.eval (.tmp 22) = cs 2).trans e2
        exact loose_call rfl (by generalize a.eval = ev at *; simp [go_sem, kc, kf, t21, t22]) ((HD.out u).mono fun e w' h => ⟨.agg #[.int .i64 D0, .int .i64 D1], h.1, h.2, e3.symm, trivial⟩)
      refine looseAll_cons (k := 5) rfl (fun a u L hE hev hkn _ _ => ?_) ?_
      · have kc : ∀ c, a.eval (.const c) = c := fun _ => rfl
        have kf : ∀ f, a.eval (.func f) = .func (.func f) #[] #[] := fun _ => rfl
        have t2 : a.eval (.tmp 2) = .pointer (some ⟨g0, 0, none⟩) := hev 2 (by kernel_rfl)
        exact loose_val rfl (v := .pointer (some ⟨g0, 2, none⟩)) (by generalize a.eval = ev at *; simp [go_sem, kc, kf, t2]) ⟨Below.refl _ _, e4.symm, trivial⟩
      refine looseAll_cons (k := 6) rfl (fun a u L hE hev hkn _ _ => ?_) ?_
      · have kc : ∀ c, a.eval (.const c) = c := fun _ => rfl
        have kf : ∀ f, a.eval (.func f) = .func (.func f) #[] #[] := fun _ => rfl
        have C_g0 := (HB_g0 u hE).2.1
        have t24 : a.eval (.tmp 24) = .pointer (some ⟨g0, 2, none⟩) := (hkn 4 (by kernel_rfl) : a.eval (.tmp 24) = cs 4).trans e4
        exact loose_val rfl (v := .agg #[.int .i64 l0, .int .i64 l1]) (by generalize a.eval = ev at *; simp [go_sem, kc, kf, t24, C_g0]) ⟨Below.refl _ _, e5.symm, trivial⟩
      refine looseAll_cons (k := 7) rfl (fun a u L hE hev hkn _ _ => ?_) ?_
      · have kc : ∀ c, a.eval (.const c) = c := fun _ => rfl
        have kf : ∀ f, a.eval (.func f) = .func (.func f) #[] #[] := fun _ => rfl
        have t3 : a.eval (.tmp 3) = .pointer (some ⟨k0, 0, none⟩) := hev 3 (by kernel_rfl)
        exact loose_val rfl (v := .pointer (some ⟨k0, 1, none⟩)) (by generalize a.eval = ev at *; simp [go_sem, kc, kf, t3]) ⟨Below.refl _ _, e6.symm, trivial⟩
      refine looseAll_cons (k := 8) rfl (fun a u L hE hev hkn _ _ => ?_) ?_
      · have kc : ∀ c, a.eval (.const c) = c := fun _ => rfl
        have kf : ∀ f, a.eval (.func f) = .func (.func f) #[] #[] := fun _ => rfl
        have C_k0 := (HB_k0 u hE).2.1
        have t26 : a.eval (.tmp 26) = .pointer (some ⟨k0, 1, none⟩) := (hkn 6 (by kernel_rfl) : a.eval (.tmp 26) = cs 6).trans e6
        exact loose_val rfl (v := .int .i64 k.m) (by generalize a.eval = ev at *; simp [go_sem, kc, kf, t26, C_k0]) ⟨Below.refl _ _, e7.symm, trivial⟩
      refine looseAll_cons (k := 9) rfl (fun a u L hE hev hkn _ _ => ?_) ?_
      · have kc : ∀ c, a.eval (.const c) = c := fun _ => rfl
        have kf : ∀ f, a.eval (.func f) = .func (.func f) #[] #[] := fun _ => rfl
        have t27 : a.eval (.tmp 27) = .int .i64 k.m := (hkn 7 (by kernel_rfl) : a.eval (.tmp 27) = cs 7).trans e7
        exact loose_call rfl (by generalize a.eval = ev at *; simp [go_sem, kc, kf, t27]) ((HI.out u).mono fun e w' h => ⟨.bool im, h.1, h.2 ▸ Below.refl _ _, e8.symm, trivial⟩)
      refine looseAll_cons (k := 10) rfl (fun a u L hE hev hkn _ _ => ?_) ?_
      · have kc : ∀ c, a.eval (.const c) = c := fun _ => rfl
        have kf : ∀ f, a.eval (.func f) = .func (.func f) #[] #[] := fun _ => rfl
        have t3 : a.eval (.tmp 3) = .pointer (some ⟨k0, 0, none⟩) := hev 3 (by kernel_rfl)
        exact loose_val rfl (v := .pointer (some ⟨k0, 5, none⟩)) (by generalize a.eval = ev at *; simp [go_sem, kc, kf, t3]) ⟨Below.refl _ _, e9.symm, trivial⟩
      refine looseAll_cons (k := 11) rfl (fun a u L hE hev hkn _ _ => ?_) ?_
      · have kc : ∀ c, a.eval (.const c) = c := fun _ => rfl
        have kf : ∀ f, a.eval (.func f) = .func (.func f) #[] #[] := fun _ => rfl
        have t29 : a.eval (.tmp 29) = .pointer (some ⟨k0, 5, none⟩) := (hkn 9 (by kernel_rfl) : a.eval (.tmp 29) = cs 9).trans e9
        exact loose_val rfl (v := .pointer (some ⟨k0, 5, none⟩)) (by generalize a.eval = ev at *; simp [go_sem, kc, kf, t29]) ⟨Below.refl _ _, e10.symm, trivial⟩
      refine looseAll_cons (k := 12) rfl (fun a u L hE hev hkn _ _ => ?_) ?_
      · have kc : ∀ c, a.eval (.const c) = c := fun _ => rfl
        have kf : ∀ f, a.eval (.func f) = .func (.func f) #[] #[] := fun _ => rfl
        have C_k0 := (HB_k0 u hE).2.1
        have t30 : a.eval (.tmp 30) = .pointer (some ⟨k0, 5, none⟩) := (hkn 10 (by kernel_rfl) : a.eval (.tmp 30) = cs 10).trans e10
        exact loose_val rfl (v := .bool k.dr) (by generalize a.eval = ev at *; simp [go_sem, kc, kf, t30, C_k0]) ⟨Below.refl _ _, e11.symm, trivial⟩
      refine looseAll_cons (k := 13) rfl (fun a u L hE hev hkn _ _ => ?_) ?_
      · have HBX := HB_k0 u hE
        have kc : ∀ c, a.eval (.const c) = c := fun _ => rfl
        have kf : ∀ f, a.eval (.func f) = .func (.func f) #[] #[] := fun _ => rfl
        have t3 : a.eval (.tmp 3) = .pointer (some ⟨k0, 0, none⟩) := hev 3 (by kernel_rfl)
        exact loose_load rfl _ _ rfl k0 t3 #[.int .i64 k.t, .int .i64 k.m, .int .i64 k.r, .int .i64 k.v, .int .i64 k.s, .bool k.dr, .bool k.sh, .bool k.st, .bool k.fa, .int .i64 k.ad, .int .i64 k.ti, .int .i64 k.ba, .int .i64 k.en, .bool k.od, .int .i64 k.ke, .bool k.wr, .int .i64 k.bd, .int .i64 k.ra, .bool k.kn, .int .i64 k.ou, .bool k.sl, .bool k.ov, .bool k.ak] _ HBX Tryz.underlying38 rfl (by kernel_rfl) ⟨Below.refl _ _, e12.symm, trivial⟩
      refine looseAll_cons (k := 14) rfl (fun a u L hE hev hkn _ _ => ?_) ?_
      · have kc : ∀ c, a.eval (.const c) = c := fun _ => rfl
        have kf : ∀ f, a.eval (.func f) = .func (.func f) #[] #[] := fun _ => rfl
        have t32 : a.eval (.tmp 32) = .agg #[.int .i64 k.t, .int .i64 k.m, .int .i64 k.r, .int .i64 k.v, .int .i64 k.s, .bool k.dr, .bool k.sh, .bool k.st, .bool k.fa, .int .i64 k.ad, .int .i64 k.ti, .int .i64 k.ba, .int .i64 k.en, .bool k.od, .int .i64 k.ke, .bool k.wr, .int .i64 k.bd, .int .i64 k.ra, .bool k.kn, .int .i64 k.ou, .bool k.sl, .bool k.ov, .bool k.ak] := (hkn 12 (by kernel_rfl) : a.eval (.tmp 32) = cs 12).trans e12
        exact loose_call rfl (by generalize a.eval = ev at *; simp [go_sem, kc, kf, t32]) ((HS.out u).mono fun e w' h => ⟨.bool sv, h.1, h.2, e13.symm, trivial⟩)
      refine looseAll_cons (k := 15) rfl (fun a u L hE hev hkn _ _ => ?_) ?_
      · have kc : ∀ c, a.eval (.const c) = c := fun _ => rfl
        have kf : ∀ f, a.eval (.func f) = .func (.func f) #[] #[] := fun _ => rfl
        have t25 : a.eval (.tmp 25) = .agg #[.int .i64 l0, .int .i64 l1] := (hkn 5 (by kernel_rfl) : a.eval (.tmp 25) = cs 5).trans e5
        have t28 : a.eval (.tmp 28) = .bool im := (hkn 8 (by kernel_rfl) : a.eval (.tmp 28) = cs 8).trans e8
        have t31 : a.eval (.tmp 31) = .bool k.dr := (hkn 11 (by kernel_rfl) : a.eval (.tmp 31) = cs 11).trans e11
        have t33 : a.eval (.tmp 33) = .bool sv := (hkn 13 (by kernel_rfl) : a.eval (.tmp 33) = cs 13).trans e13
        exact loose_call rfl (by generalize a.eval = ev at *; simp [go_sem, kc, kf, t25, t28, t31, t33]) ((HL.out u).mono fun e w' h => ⟨.agg #[.int .i64 L0, .int .i64 L1], h.1, h.2, e14.symm, trivial⟩)
      refine looseAll_cons (k := 16) rfl (fun a u L hE hev hkn _ _ => ?_) ?_
      · have kc : ∀ c, a.eval (.const c) = c := fun _ => rfl
        have kf : ∀ f, a.eval (.func f) = .func (.func f) #[] #[] := fun _ => rfl
        have t2 : a.eval (.tmp 2) = .pointer (some ⟨g0, 0, none⟩) := hev 2 (by kernel_rfl)
        exact loose_val rfl (v := .pointer (some ⟨g0, 4, none⟩)) (by generalize a.eval = ev at *; simp [go_sem, kc, kf, t2]) ⟨Below.refl _ _, e15.symm, trivial⟩
      refine looseAll_cons (k := 17) rfl (fun a u L hE hev hkn _ _ => ?_) ?_
      · have kc : ∀ c, a.eval (.const c) = c := fun _ => rfl
        have kf : ∀ f, a.eval (.func f) = .func (.func f) #[] #[] := fun _ => rfl
        have C_g0 := (HB_g0 u hE).2.1
        have t35 : a.eval (.tmp 35) = .pointer (some ⟨g0, 4, none⟩) := (hkn 15 (by kernel_rfl) : a.eval (.tmp 35) = cs 15).trans e15
        exact loose_val rfl (v := .agg #[.int .i64 p0, .int .i64 p1]) (by generalize a.eval = ev at *; simp [go_sem, kc, kf, t35, C_g0]) ⟨Below.refl _ _, e16.symm, trivial⟩
      refine looseAll_cons (k := 18) rfl (fun a u L hE hev hkn _ _ => ?_) ?_
      · have kc : ∀ c, a.eval (.const c) = c := fun _ => rfl
        have kf : ∀ f, a.eval (.func f) = .func (.func f) #[] #[] := fun _ => rfl
        have t3 : a.eval (.tmp 3) = .pointer (some ⟨k0, 0, none⟩) := hev 3 (by kernel_rfl)
        exact loose_val rfl (v := .pointer (some ⟨k0, 9, none⟩)) (by generalize a.eval = ev at *; simp [go_sem, kc, kf, t3]) ⟨Below.refl _ _, e17.symm, trivial⟩
      refine looseAll_cons (k := 19) rfl (fun a u L hE hev hkn _ _ => ?_) ?_
      · have kc : ∀ c, a.eval (.const c) = c := fun _ => rfl
        have kf : ∀ f, a.eval (.func f) = .func (.func f) #[] #[] := fun _ => rfl
        have t37 : a.eval (.tmp 37) = .pointer (some ⟨k0, 9, none⟩) := (hkn 17 (by kernel_rfl) : a.eval (.tmp 37) = cs 17).trans e17
        exact loose_val rfl (v := .pointer (some ⟨k0, 10, none⟩)) (by generalize a.eval = ev at *; simp [go_sem, kc, kf, t37]) ⟨Below.refl _ _, e18.symm, trivial⟩
      refine looseAll_cons (k := 20) rfl (fun a u L hE hev hkn _ _ => ?_) ?_
      · have kc : ∀ c, a.eval (.const c) = c := fun _ => rfl
        have kf : ∀ f, a.eval (.func f) = .func (.func f) #[] #[] := fun _ => rfl
        have C_k0 := (HB_k0 u hE).2.1
        have t38 : a.eval (.tmp 38) = .pointer (some ⟨k0, 10, none⟩) := (hkn 18 (by kernel_rfl) : a.eval (.tmp 38) = cs 18).trans e18
        exact loose_val rfl (v := .int .i64 k.ti) (by generalize a.eval = ev at *; simp [go_sem, kc, kf, t38, C_k0]) ⟨Below.refl _ _, e19.symm, trivial⟩
      refine looseAll_cons (k := 21) rfl (fun a u L hE hev hkn _ _ => ?_) ?_
      · have kc : ∀ c, a.eval (.const c) = c := fun _ => rfl
        have kf : ∀ f, a.eval (.func f) = .func (.func f) #[] #[] := fun _ => rfl
        have t3 : a.eval (.tmp 3) = .pointer (some ⟨k0, 0, none⟩) := hev 3 (by kernel_rfl)
        exact loose_val rfl (v := .pointer (some ⟨k0, 9, none⟩)) (by generalize a.eval = ev at *; simp [go_sem, kc, kf, t3]) ⟨Below.refl _ _, e20.symm, trivial⟩
      refine looseAll_cons (k := 22) rfl (fun a u L hE hev hkn _ _ => ?_) ?_
      · have kc : ∀ c, a.eval (.const c) = c := fun _ => rfl
        have kf : ∀ f, a.eval (.func f) = .func (.func f) #[] #[] := fun _ => rfl
        have t40 : a.eval (.tmp 40) = .pointer (some ⟨k0, 9, none⟩) := (hkn 20 (by kernel_rfl) : a.eval (.tmp 40) = cs 20).trans e20
        exact loose_val rfl (v := .pointer (some ⟨k0, 11, none⟩)) (by generalize a.eval = ev at *; simp [go_sem, kc, kf, t40]) ⟨Below.refl _ _, e21.symm, trivial⟩
      refine looseAll_cons (k := 23) rfl (fun a u L hE hev hkn _ _ => ?_) ?_
      · have kc : ∀ c, a.eval (.const c) = c := fun _ => rfl
        have kf : ∀ f, a.eval (.func f) = .func (.func f) #[] #[] := fun _ => rfl
        have C_k0 := (HB_k0 u hE).2.1
        have t41 : a.eval (.tmp 41) = .pointer (some ⟨k0, 11, none⟩) := (hkn 21 (by kernel_rfl) : a.eval (.tmp 41) = cs 21).trans e21
        exact loose_val rfl (v := .int .i64 k.ba) (by generalize a.eval = ev at *; simp [go_sem, kc, kf, t41, C_k0]) ⟨Below.refl _ _, e22.symm, trivial⟩
      refine looseAll_cons (k := 24) rfl (fun a u L hE hev hkn _ _ => ?_) ?_
      · have kc : ∀ c, a.eval (.const c) = c := fun _ => rfl
        have kf : ∀ f, a.eval (.func f) = .func (.func f) #[] #[] := fun _ => rfl
        have t36 : a.eval (.tmp 36) = .agg #[.int .i64 p0, .int .i64 p1] := (hkn 16 (by kernel_rfl) : a.eval (.tmp 36) = cs 16).trans e16
        have t39 : a.eval (.tmp 39) = .int .i64 k.ti := (hkn 19 (by kernel_rfl) : a.eval (.tmp 39) = cs 19).trans e19
        have t42 : a.eval (.tmp 42) = .int .i64 k.ba := (hkn 22 (by kernel_rfl) : a.eval (.tmp 42) = cs 22).trans e22
        exact loose_call rfl (by generalize a.eval = ev at *; simp [go_sem, kc, kf, t36, t39, t42]) ((HP.out u).mono fun e w' h => ⟨.agg #[.int .i64 P0, .int .i64 P1], h.1, h.2, e23.symm, trivial⟩)
      refine looseAll_cons (k := 25) rfl (fun a u L hE hev hkn _ _ => ?_) ?_
      · have kc : ∀ c, a.eval (.const c) = c := fun _ => rfl
        have kf : ∀ f, a.eval (.func f) = .func (.func f) #[] #[] := fun _ => rfl
        have t2 : a.eval (.tmp 2) = .pointer (some ⟨g0, 0, none⟩) := hev 2 (by kernel_rfl)
        exact loose_val rfl (v := .pointer (some ⟨g0, 6, none⟩)) (by generalize a.eval = ev at *; simp [go_sem, kc, kf, t2]) ⟨Below.refl _ _, e24.symm, trivial⟩
      refine looseAll_cons (k := 26) rfl (fun a u L hE hev hkn _ _ => ?_) ?_
      · have kc : ∀ c, a.eval (.const c) = c := fun _ => rfl
        have kf : ∀ f, a.eval (.func f) = .func (.func f) #[] #[] := fun _ => rfl
        have C_g0 := (HB_g0 u hE).2.1
        have t44 : a.eval (.tmp 44) = .pointer (some ⟨g0, 6, none⟩) := (hkn 24 (by kernel_rfl) : a.eval (.tmp 44) = cs 24).trans e24
        exact loose_val rfl (v := .slice A n c) (by generalize a.eval = ev at *; simp [go_sem, kc, kf, t44, C_g0]) ⟨Below.refl _ _, e25.symm, trivial⟩
      refine looseAll_cons (k := 27) rfl (fun a u L hE hev hkn _ _ => ?_) ?_
      · have kc : ∀ c, a.eval (.const c) = c := fun _ => rfl
        have kf : ∀ f, a.eval (.func f) = .func (.func f) #[] #[] := fun _ => rfl
        have t3 : a.eval (.tmp 3) = .pointer (some ⟨k0, 0, none⟩) := hev 3 (by kernel_rfl)
        exact loose_val rfl (v := .pointer (some ⟨k0, 0, none⟩)) (by generalize a.eval = ev at *; simp [go_sem, kc, kf, t3]) ⟨Below.refl _ _, e26.symm, trivial⟩
      refine looseAll_cons (k := 28) rfl (fun a u L hE hev hkn _ _ => ?_) ?_
      · have kc : ∀ c, a.eval (.const c) = c := fun _ => rfl
        have kf : ∀ f, a.eval (.func f) = .func (.func f) #[] #[] := fun _ => rfl
        have C_k0 := (HB_k0 u hE).2.1
        have t46 : a.eval (.tmp 46) = .pointer (some ⟨k0, 0, none⟩) := (hkn 26 (by kernel_rfl) : a.eval (.tmp 46) = cs 26).trans e26
        exact loose_val rfl (v := .int .i64 k.t) (by generalize a.eval = ev at *; simp [go_sem, kc, kf, t46, C_k0]) ⟨Below.refl _ _, e27.symm, trivial⟩
      refine looseAll_cons (k := 29) rfl (fun a u L hE hev hkn _ _ => ?_) ?_
      · have kc : ∀ c, a.eval (.const c) = c := fun _ => rfl
        have kf : ∀ f, a.eval (.func f) = .func (.func f) #[] #[] := fun _ => rfl
        have t3 : a.eval (.tmp 3) = .pointer (some ⟨k0, 0, none⟩) := hev 3 (by kernel_rfl)
        exact loose_val rfl (v := .pointer (some ⟨k0, 5, none⟩)) (by generalize a.eval = ev at *; simp [go_sem, kc, kf, t3]) ⟨Below.refl _ _, e28.symm, trivial⟩
      refine looseAll_cons (k := 30) rfl (fun a u L hE hev hkn _ _ => ?_) ?_
      · have kc : ∀ c, a.eval (.const c) = c := fun _ => rfl
        have kf : ∀ f, a.eval (.func f) = .func (.func f) #[] #[] := fun _ => rfl
        have t48 : a.eval (.tmp 48) = .pointer (some ⟨k0, 5, none⟩) := (hkn 28 (by kernel_rfl) : a.eval (.tmp 48) = cs 28).trans e28
        exact loose_val rfl (v := .pointer (some ⟨k0, 5, none⟩)) (by generalize a.eval = ev at *; simp [go_sem, kc, kf, t48]) ⟨Below.refl _ _, e29.symm, trivial⟩
      refine looseAll_cons (k := 31) rfl (fun a u L hE hev hkn _ _ => ?_) ?_
      · have kc : ∀ c, a.eval (.const c) = c := fun _ => rfl
        have kf : ∀ f, a.eval (.func f) = .func (.func f) #[] #[] := fun _ => rfl
        have C_k0 := (HB_k0 u hE).2.1
        have t49 : a.eval (.tmp 49) = .pointer (some ⟨k0, 5, none⟩) := (hkn 29 (by kernel_rfl) : a.eval (.tmp 49) = cs 29).trans e29
        exact loose_val rfl (v := .bool k.dr) (by generalize a.eval = ev at *; simp [go_sem, kc, kf, t49, C_k0]) ⟨Below.refl _ _, e30.symm, trivial⟩
      refine looseAll_cons (k := 32) rfl (fun a u L hE hev hkn _ _ => ?_) ?_
      · have kc : ∀ c, a.eval (.const c) = c := fun _ => rfl
        have kf : ∀ f, a.eval (.func f) = .func (.func f) #[] #[] := fun _ => rfl
        have t6 : a.eval (.tmp 6) = .int .i64 li := hev 6 (by kernel_rfl)
        exact loose_val rfl (v := .int .i64 li) (by generalize a.eval = ev at *; simp [go_sem, kc, kf, t6]) ⟨Below.refl _ _, e31.symm, trivial⟩
      refine looseAll_cons (k := 33) rfl (fun a u L hE hev hkn _ _ => ?_) ?_
      · have kc : ∀ c, a.eval (.const c) = c := fun _ => rfl
        have kf : ∀ f, a.eval (.func f) = .func (.func f) #[] #[] := fun _ => rfl
        have t45 : a.eval (.tmp 45) = .slice A n c := (hkn 25 (by kernel_rfl) : a.eval (.tmp 45) = cs 25).trans e25
        have t47 : a.eval (.tmp 47) = .int .i64 k.t := (hkn 27 (by kernel_rfl) : a.eval (.tmp 47) = cs 27).trans e27
        have t50 : a.eval (.tmp 50) = .bool k.dr := (hkn 30 (by kernel_rfl) : a.eval (.tmp 50) = cs 30).trans e30
        have t51 : a.eval (.tmp 51) = .int .i64 li := (hkn 31 (by kernel_rfl) : a.eval (.tmp 51) = cs 31).trans e31
        exact loose_call rfl (by generalize a.eval = ev at *; simp [go_sem, kc, kf, t45, t47, t50, t51]) ((HN.out u (HW u hE)).mono fun e u' h => by obtain ⟨v, he, ho, hb⟩ := h; exact ⟨v, he, hb, (by have ho := own_base ho hE.size; rw [HM.out] at ho; exact ho), trivial⟩)
      refine looseAll_cons (k := 34) rfl (fun a u L hE hev hkn _ _ => ?_) ?_
      · have kc : ∀ c, a.eval (.const c) = c := fun _ => rfl
        have kf : ∀ f, a.eval (.func f) = .func (.func f) #[] #[] := fun _ => rfl
        have t23 : a.eval (.tmp 23) = .agg #[.int .i64 D0, .int .i64 D1] := (hkn 3 (by kernel_rfl) : a.eval (.tmp 23) = cs 3).trans e3
        have t34 : a.eval (.tmp 34) = .agg #[.int .i64 L0, .int .i64 L1] := (hkn 14 (by kernel_rfl) : a.eval (.tmp 34) = cs 14).trans e14
        have t43 : a.eval (.tmp 43) = .agg #[.int .i64 P0, .int .i64 P1] := (hkn 23 (by kernel_rfl) : a.eval (.tmp 43) = cs 23).trans e23
        obtain ⟨v52, t52, ho⟩ : ∃ v, a.eval (.tmp 52) = v ∧ u.ownsRow w2.heap.size 3 1 v m (ys.map (Value.int .i64)) := ⟨_, rfl, hkn 32 (by kernel_rfl)⟩
        obtain ⟨B, d, rfl, hd, hi, hm9, hbase, hne⟩ := own_ints ho HM.out
        exact loose_val rfl (v := .agg #[.int .i64 D0, .int .i64 D1, .int .i64 L0, .int .i64 L1, .int .i64 P0, .int .i64 P1, .slice B m d, .int .i64 0]) (by generalize a.eval = ev at *; simp [go_sem, kc, kf, t23, t34, t43, t52]) ⟨Below.refl _ _, ⟨_, rfl, ho⟩, trivial⟩
      refine looseAll_cons (k := 35) rfl (fun a u L hE hev hkn _ _ => ?_) ?_
      · have kc : ∀ c, a.eval (.const c) = c := fun _ => rfl
        have kf : ∀ f, a.eval (.func f) = .func (.func f) #[] #[] := fun _ => rfl
        have hr := (HB_r0 u hE).1
        exact loose_val rfl (v := .pointer (some ⟨u.heap.size, 0, none⟩)) (w' := u.alloc (.cells #[.int .i64 0, .int .i64 0, .int .i64 0, .int .i64 0, .int .i64 0, .int .i64 0, .slice none 0 0, .int .i64 0] 30)) (by generalize a.eval = ev at *; simp [go_sem, kc, kf]) ⟨below_alloc_on (Below.refl _ _) _, ⟨u.heap.size, rfl, hr, box_new _ _ _, heap_alloc_new _ _⟩, trivial⟩
      exact looseAll_nil
    · intro a w3 hE hsz hdf hO hDD _
      obtain ⟨v52, f52, hoA⟩ : ∃ v, a.tmps.getD 52 undef = v ∧ w3.ownsRow w2.heap.size 3 1 v m (ys.map (Value.int .i64)) := ⟨_, rfl, hDD 32 (by omega)⟩
      obtain ⟨x, f53, hoB⟩ : ∃ x, a.tmps.getD 53 undef = .agg #[.int .i64 D0, .int .i64 D1, .int .i64 L0, .int .i64 L1, .int .i64 P0, .int .i64 P1, x, .int .i64 0] ∧ w3.ownsRow w2.heap.size 3 1 x m (ys.map (Value.int .i64)) := hDD 33 (by omega)
      obtain ⟨q, f8, hq, BQ, hQ⟩ : ∃ q, a.tmps.getD 8 undef = .pointer (some ⟨q, 0, none⟩) ∧ r0 < q ∧ Box w3 q #[.int .i64 0, .int .i64 0, .int .i64 0, .int .i64 0, .int .i64 0, .int .i64 0, .slice none 0 0, .int .i64 0] ∧ w3.heap[q]? = some (.cells #[.int .i64 0, .int .i64 0, .int .i64 0, .int .i64 0, .int .i64 0, .int .i64 0, .slice none 0 0, .int .i64 0] 30 (0, 0)) := hDD 34 (by omega)
      obtain ⟨B, d, rfl, hd, hi, hm9, hbase, hne⟩ := own_ints hoB HM.out
      have hne := hne q _ _ hQ (by decide)
      have HNE := Lib.hid (show ∀ b o, B = some ⟨b, o, none⟩ → b ≠ q ∧ b ≠ r0 ∧ w.heap.size ≤ b from fun b o hb => ⟨hne b o hb, by have := hbase b o hb; have := X2.lt; omega, by have := hbase b o hb; have := X2.lt; omega⟩)
      clear hbase
      have hOO : ∀ s, isDst _ s = false → a.tmps.getD s undef = (List.toArray (.agg #[.int .i64 d0, .int .i64 d1, .int .i64 l0, .int .i64 l1, .int .i64 p0, .int .i64 p1, .slice A n c, .int .i64 la] :: .agg #[.int .i64 k.t, .int .i64 k.m, .int .i64 k.r, .int .i64 k.v, .int .i64 k.s, .bool k.dr, .bool k.sh, .bool k.st, .bool k.fa, .int .i64 k.ad, .int .i64 k.ti, .int .i64 k.ba, .int .i64 k.en, .bool k.od, .int .i64 k.ke, .bool k.wr, .int .i64 k.bd, .int .i64 k.ra, .bool k.kn, .int .i64 k.ou, .bool k.sl, .bool k.ov, .bool k.ak] :: .pointer (some ⟨g0, 0, none⟩) :: .pointer (some ⟨k0, 0, none⟩) :: .pointer (some ⟨r0, 0, none⟩) :: .int .i64 0 :: .int .i64 li :: .bool ho :: undef :: undef :: .tuple #[.int .i64 li, .bool ho] :: .pointer (some ⟨k0, 2, none⟩) :: .pointer (some ⟨k0, 2, none⟩) :: .int .i64 k.r :: .pointer (some ⟨k0, 2, none⟩) :: .pointer (some ⟨k0, 4, none⟩) :: .int .i64 k.s :: .tuple #[.int .i64 li, .bool ho] :: .int .i64 li :: .bool ho :: undef :: undef :: undef :: undef :: undef :: undef :: undef :: undef :: undef :: undef :: undef :: undef :: undef :: undef :: undef :: undef :: undef :: undef :: undef :: undef :: undef :: undef :: undef :: undef :: undef :: undef :: undef :: undef :: undef :: undef :: undef :: undef :: undef :: undef :: undef :: undef :: undef :: undef :: undef :: undef :: undef :: undef :: undef :: undef :: undef :: undef :: undef :: undef :: undef :: undef :: undef :: undef :: undef :: undef :: undef :: undef :: undef :: undef :: undef :: undef :: undef :: undef :: undef :: undef :: undef :: undef :: undef :: undef :: undef :: undef :: undef :: undef :: undef :: undef :: undef :: undef :: undef :: undef :: undef :: undef :: undef :: undef :: undef :: undef :: undef :: undef :: undef :: undef :: undef :: undef :: undef :: undef :: undef :: undef :: undef :: undef :: undef :: []) : Array Value).getD s undef := fun s h => by rw [Array.getD_eq_getD_getElem?, Array.getD_eq_getD_getElem?, hO s h]
      obtain rfl := act_lit (ys := (List.toArray (.agg #[.int .i64 d0, .int .i64 d1, .int .i64 l0, .int .i64 l1, .int .i64 p0, .int .i64 p1, .slice A n c, .int .i64 la] :: .agg #[.int .i64 k.t, .int .i64 k.m, .int .i64 k.r, .int .i64 k.v, .int .i64 k.s, .bool k.dr, .bool k.sh, .bool k.st, .bool k.fa, .int .i64 k.ad, .int .i64 k.ti, .int .i64 k.ba, .int .i64 k.en, .bool k.od, .int .i64 k.ke, .bool k.wr, .int .i64 k.bd, .int .i64 k.ra, .bool k.kn, .int .i64 k.ou, .bool k.sl, .bool k.ov, .bool k.ak] :: .pointer (some ⟨g0, 0, none⟩) :: .pointer (some ⟨k0, 0, none⟩) :: .pointer (some ⟨r0, 0, none⟩) :: .int .i64 0 :: .int .i64 li :: .bool ho :: .pointer (some ⟨q, 0, none⟩) :: undef :: .tuple #[.int .i64 li, .bool ho] :: .pointer (some ⟨k0, 2, none⟩) :: .pointer (some ⟨k0, 2, none⟩) :: .int .i64 k.r :: .pointer (some ⟨k0, 2, none⟩) :: .pointer (some ⟨k0, 4, none⟩) :: .int .i64 k.s :: .tuple #[.int .i64 li, .bool ho] :: .int .i64 li :: .bool ho :: .pointer (some ⟨g0, 0, none⟩) :: .agg #[.int .i64 d0, .int .i64 d1] :: .agg #[.int .i64 k.t, .int .i64 k.m, .int .i64 k.r, .int .i64 k.v, .int .i64 k.s, .bool k.dr, .bool k.sh, .bool k.st, .bool k.fa, .int .i64 k.ad, .int .i64 k.ti, .int .i64 k.ba, .int .i64 k.en, .bool k.od, .int .i64 k.ke, .bool k.wr, .int .i64 k.bd, .int .i64 k.ra, .bool k.kn, .int .i64 k.ou, .bool k.sl, .bool k.ov, .bool k.ak] :: .agg #[.int .i64 D0, .int .i64 D1] :: .pointer (some ⟨g0, 2, none⟩) :: .agg #[.int .i64 l0, .int .i64 l1] :: .pointer (some ⟨k0, 1, none⟩) :: .int .i64 k.m :: .bool im :: .pointer (some ⟨k0, 5, none⟩) :: .pointer (some ⟨k0, 5, none⟩) :: .bool k.dr :: .agg #[.int .i64 k.t, .int .i64 k.m, .int .i64 k.r, .int .i64 k.v, .int .i64 k.s, .bool k.dr, .bool k.sh, .bool k.st, .bool k.fa, .int .i64 k.ad, .int .i64 k.ti, .int .i64 k.ba, .int .i64 k.en, .bool k.od, .int .i64 k.ke, .bool k.wr, .int .i64 k.bd, .int .i64 k.ra, .bool k.kn, .int .i64 k.ou, .bool k.sl, .bool k.ov, .bool k.ak] :: .bool sv :: .agg #[.int .i64 L0, .int .i64 L1] :: .pointer (some ⟨g0, 4, none⟩) :: .agg #[.int .i64 p0, .int .i64 p1] :: .pointer (some ⟨k0, 9, none⟩) :: .pointer (some ⟨k0, 10, none⟩) :: .int .i64 k.ti :: .pointer (some ⟨k0, 9, none⟩) :: .pointer (some ⟨k0, 11, none⟩) :: .int .i64 k.ba :: .agg #[.int .i64 P0, .int .i64 P1] :: .pointer (some ⟨g0, 6, none⟩) :: .slice A n c :: .pointer (some ⟨k0, 0, none⟩) :: .int .i64 k.t :: .pointer (some ⟨k0, 5, none⟩) :: .pointer (some ⟨k0, 5, none⟩) :: .bool k.dr :: .int .i64 li :: v52 :: .agg #[.int .i64 D0, .int .i64 D1, .int .i64 L0, .int .i64 L1, .int .i64 P0, .int .i64 P1, .slice B m d, .int .i64 0] :: undef :: undef :: undef :: undef :: undef :: undef :: undef :: undef :: undef :: undef :: undef :: undef :: undef :: undef :: undef :: undef :: undef :: undef :: undef :: undef :: undef :: undef :: undef :: undef :: undef :: undef :: undef :: undef :: undef :: undef :: undef :: undef :: undef :: undef :: undef :: undef :: undef :: undef :: undef :: undef :: undef :: undef :: undef :: undef :: undef :: undef :: undef :: undef :: undef :: undef :: undef :: undef :: undef :: undef :: undef :: undef :: undef :: undef :: undef :: undef :: undef :: undef :: undef :: []))) hdf hsz (fun s hs => match s, hs with
        | 0, _ => hOO 0 (by kernel_rfl)
        | 1, _ => hOO 1 (by kernel_rfl)
        | 2, _ => hOO 2 (by kernel_rfl)
        | 3, _ => hOO 3 (by kernel_rfl)
        | 4, _ => hOO 4 (by kernel_rfl)
        | 5, _ => hOO 5 (by kernel_rfl)
        | 6, _ => hOO 6 (by kernel_rfl)
        | 7, _ => hOO 7 (by kernel_rfl)
        | 8, _ => f8
        | 9, _ => hOO 9 (by kernel_rfl)
        | 10, _ => hOO 10 (by kernel_rfl)
        | 11, _ => hOO 11 (by kernel_rfl)
        | 12, _ => hOO 12 (by kernel_rfl)
        | 13, _ => hOO 13 (by kernel_rfl)
        | 14, _ => hOO 14 (by kernel_rfl)
        | 15, _ => hOO 15 (by kernel_rfl)
        | 16, _ => hOO 16 (by kernel_rfl)
        | 17, _ => hOO 17 (by kernel_rfl)
        | 18, _ => hOO 18 (by kernel_rfl)
        | 19, _ => hOO 19 (by kernel_rfl)
        | 20, _ => (hDD 0 (by omega)).trans e0
        | 21, _ => (hDD 1 (by omega)).trans e1
        | 22, _ => (hDD 2 (by omega)).trans e2
        | 23, _ => (hDD 3 (by omega)).trans e3
        | 24, _ => (hDD 4 (by omega)).trans e4
        | 25, _ => (hDD 5 (by omega)).trans e5
        | 26, _ => (hDD 6 (by omega)).trans e6
        | 27, _ => (hDD 7 (by omega)).trans e7
        | 28, _ => (hDD 8 (by omega)).trans e8
        | 29, _ => (hDD 9 (by omega)).trans e9
        | 30, _ => (hDD 10 (by omega)).trans e10
        | 31, _ => (hDD 11 (by omega)).trans e11
        | 32, _ => (hDD 12 (by omega)).trans e12
        | 33, _ => (hDD 13 (by omega)).trans e13
        | 34, _ => (hDD 14 (by omega)).trans e14
        | 35, _ => (hDD 15 (by omega)).trans e15
        | 36, _ => (hDD 16 (by omega)).trans e16
        | 37, _ => (hDD 17 (by omega)).trans e17
        | 38, _ => (hDD 18 (by omega)).trans e18
        | 39, _ => (hDD 19 (by omega)).trans e19
        | 40, _ => (hDD 20 (by omega)).trans e20
        | 41, _ => (hDD 21 (by omega)).trans e21
        | 42, _ => (hDD 22 (by omega)).trans e22
        | 43, _ => (hDD 23 (by omega)).trans e23
        | 44, _ => (hDD 24 (by omega)).trans e24
        | 45, _ => (hDD 25 (by omega)).trans e25
        | 46, _ => (hDD 26 (by omega)).trans e26
        | 47, _ => (hDD 27 (by omega)).trans e27
        | 48, _ => (hDD 28 (by omega)).trans e28
        | 49, _ => (hDD 29 (by omega)).trans e29
        | 50, _ => (hDD 30 (by omega)).trans e30
        | 51, _ => (hDD 31 (by omega)).trans e31
        | 52, _ => f52
        | 53, _ => f53
        | 54, _ => hOO 54 (by kernel_rfl)
        | 55, _ => hOO 55 (by kernel_rfl)
        | 56, _ => hOO 56 (by kernel_rfl)
        | 57, _ => hOO 57 (by kernel_rfl)
        | 58, _ => hOO 58 (by kernel_rfl)
        | 59, _ => hOO 59 (by kernel_rfl)
        | 60, _ => hOO 60 (by kernel_rfl)
        | 61, _ => hOO 61 (by kernel_rfl)
        | 62, _ => hOO 62 (by kernel_rfl)
        | 63, _ => hOO 63 (by kernel_rfl)
        | 64, _ => hOO 64 (by kernel_rfl)
        | 65, _ => hOO 65 (by kernel_rfl)
        | 66, _ => hOO 66 (by kernel_rfl)
        | 67, _ => hOO 67 (by kernel_rfl)
        | 68, _ => hOO 68 (by kernel_rfl)
        | 69, _ => hOO 69 (by kernel_rfl)
        | 70, _ => hOO 70 (by kernel_rfl)
        | 71, _ => hOO 71 (by kernel_rfl)
        | 72, _ => hOO 72 (by kernel_rfl)
        | 73, _ => hOO 73 (by kernel_rfl)
        | 74, _ => hOO 74 (by kernel_rfl)
        | 75, _ => hOO 75 (by kernel_rfl)
        | 76, _ => hOO 76 (by kernel_rfl)
        | 77, _ => hOO 77 (by kernel_rfl)
        | 78, _ => hOO 78 (by kernel_rfl)
        | 79, _ => hOO 79 (by kernel_rfl)
        | 80, _ => hOO 80 (by kernel_rfl)
        | 81, _ => hOO 81 (by kernel_rfl)
        | 82, _ => hOO 82 (by kernel_rfl)
        | 83, _ => hOO 83 (by kernel_rfl)
        | 84, _ => hOO 84 (by kernel_rfl)
        | 85, _ => hOO 85 (by kernel_rfl)
        | 86, _ => hOO 86 (by kernel_rfl)
        | 87, _ => hOO 87 (by kernel_rfl)
        | 88, _ => hOO 88 (by kernel_rfl)
        | 89, _ => hOO 89 (by kernel_rfl)
        | 90, _ => hOO 90 (by kernel_rfl)
        | 91, _ => hOO 91 (by kernel_rfl)
        | 92, _ => hOO 92 (by kernel_rfl)
        | 93, _ => hOO 93 (by kernel_rfl)
        | 94, _ => hOO 94 (by kernel_rfl)
        | 95, _ => hOO 95 (by kernel_rfl)
        | 96, _ => hOO 96 (by kernel_rfl)
        | 97, _ => hOO 97 (by kernel_rfl)
        | 98, _ => hOO 98 (by kernel_rfl)
        | 99, _ => hOO 99 (by kernel_rfl)
        | 100, _ => hOO 100 (by kernel_rfl)
        | 101, _ => hOO 101 (by kernel_rfl)
        | 102, _ => hOO 102 (by kernel_rfl)
        | 103, _ => hOO 103 (by kernel_rfl)
        | 104, _ => hOO 104 (by kernel_rfl)
        | 105, _ => hOO 105 (by kernel_rfl)
        | 106, _ => hOO 106 (by kernel_rfl)
        | 107, _ => hOO 107 (by kernel_rfl)
        | 108, _ => hOO 108 (by kernel_rfl)
        | 109, _ => hOO 109 (by kernel_rfl)
        | 110, _ => hOO 110 (by kernel_rfl)
        | 111, _ => hOO 111 (by kernel_rfl)
        | 112, _ => hOO 112 (by kernel_rfl)
        | 113, _ => hOO 113 (by kernel_rfl)
        | 114, _ => hOO 114 (by kernel_rfl)
        | 115, _ => hOO 115 (by kernel_rfl)
        | 116, _ => hOO 116 (by kernel_rfl)
        | (k + 117), h => absurd h (by simp))
      have Y0 : Bx w g0 #[.int .i64 d0, .int .i64 d1, .int .i64 l0, .int .i64 l1, .int .i64 p0, .int .i64 p1, .slice A n c, .int .i64 la] w3 := ⟨HB_g0 _ hE, HW _ hE, o0⟩
      have Y1 : Bx w k0 #[.int .i64 k.t, .int .i64 k.m, .int .i64 k.r, .int .i64 k.v, .int .i64 k.s, .bool k.dr, .bool k.sh, .bool k.st, .bool k.fa, .int .i64 k.ad, .int .i64 k.ti, .int .i64 k.ba, .int .i64 k.en, .bool k.od, .int .i64 k.ke, .bool k.wr, .int .i64 k.bd, .int .i64 k.ra, .bool k.kn, .int .i64 k.ou, .bool k.sl, .bool k.ov, .bool k.ak] w3 := ⟨HB_k0 _ hE, HW _ hE, o1⟩
      have Y2 : Bx w r0 #[.int .i64 0, .int .i64 0, .int .i64 0, .int .i64 0, .int .i64 0, .int .i64 0, .slice none 0 0, .int .i64 0] w3 := ⟨HB_r0 _ hE, HW _ hE, o2⟩
      have hi8 := Lib.hid (ints_set (ints_set (ints_set (ints_set (ints_set (ints_set (ints_set (ints_set hi hne 0 (.int .i64 D0)) hne 1 (.int .i64 D1)) hne 2 (.int .i64 L0)) hne 3 (.int .i64 L1)) hne 4 (.int .i64 P0)) hne 5 (.int .i64 P1)) hne 6 (.slice B m d)) hne 7 (.int .i64 0))
      have B8 := Lib.hid (Box.eight_set BQ (.int .i64 D0) (.int .i64 D1) (.int .i64 L0) (.int .i64 L1) (.int .i64 P0) (.int .i64 P1) (.slice B m d) (.int .i64 0))
      have A3 := Lib.hid (HW _ hE)
      have qg : ¬ q = g0 := by omega
      have qk : ¬ q = k0 := by omega
      have qr : ¬ q = r0 := by omega
      have qw : w.heap.size ≤ q := by omega
      have lq := BQ.1
      have cq := BQ.2.1
      have fq := BQ.2.2
      clear BQ hQ hne hi hDD hOO hO hE f52 f53 f8 hoA hoB e0 e1 e2 e3 e4 e5 e6 e7 e8 e9 e10 e11 e12 e13 e14 e15 e16 e17 e18 e19 e20 e21 e22 e23 e24 e25 e26 e27 e28 e29 e30 e31
      go_wp2
      go_meet
      exact ⟨q, B, d, rfl, hd, hm9, HNE.out, hi8.out, by (repeat (first | (with_reducible assumption) | (with_reducible refine Bx.drew ?_) | (with_reducible refine Bx.alloc ?_ _) | (with_reducible refine Bx.far2 ?_ (by first | (simp; done) | (simp; omega) | omega) (by first | (simp; done) | (simp; omega) | omega) _))), by (repeat (first | (with_reducible assumption) | (with_reducible refine Bx.drew ?_) | (with_reducible refine Bx.alloc ?_ _) | (with_reducible refine Bx.far2 ?_ (by first | (simp; done) | (simp; omega) | omega) (by first | (simp; done) | (simp; omega) | omega) _))), by (repeat (first | (with_reducible assumption) | (with_reducible refine Bx.drew ?_) | (with_reducible refine Bx.alloc ?_ _) | (with_reducible refine Bx.far2 ?_ (by first | (simp; done) | (simp; omega) | omega) (by first | (simp; done) | (simp; omega) | omega) _))), hq, ⟨B8.out, by (have A4 := A3.out); (repeat (first | (with_reducible exact Below.refl _ _) | (with_reducible assumption) | (with_reducible refine Near.up _ ?_) | (with_reducible refine Below.drew ?_) | (with_reducible refine below_alloc_on ?_ _) | (with_reducible refine below_set_on ?_ (by first | (simp; done) | (simp; omega) | omega) _))), qw⟩⟩
  case rest =>
    clear X0 X1 X2
    obtain ⟨q, B, d, rfl, hd, hm9, hne, hi, X0, X1, X2, hq, X3⟩ := hcut
    have HNE := Lib.hid hne
    clear hne
    have HOV := Lib.hid (fun w hi => HOV.out B m d w hi hm9)
    clear HX HD HI HS HL HP HN
    go_upto_region 3 with (fail)
    go_cut [9] (fun v wx => v = .int .i64 HE ∧ Ints wx B m ys ∧ Bx w g0 #[.int .i64 d0, .int .i64 d1, .int .i64 l0, .int .i64 l1, .int .i64 p0, .int .i64 p1, .slice A n c, .int .i64 la] wx ∧ Bx w k0 #[.int .i64 k.t, .int .i64 k.m, .int .i64 k.r, .int .i64 k.v, .int .i64 k.s, .bool k.dr, .bool k.sh, .bool k.st, .bool k.fa, .int .i64 k.ad, .int .i64 k.ti, .int .i64 k.ba, .int .i64 k.en, .bool k.od, .int .i64 k.ke, .bool k.wr, .int .i64 k.bd, .int .i64 k.ra, .bool k.kn, .int .i64 k.ou, .bool k.sl, .bool k.ov, .bool k.ak] wx ∧ Bx w r0 #[.int .i64 0, .int .i64 0, .int .i64 0, .int .i64 0, .int .i64 0, .int .i64 0, .slice none 0 0, .int .i64 0] wx ∧ Bx w q #[.int .i64 D0, .int .i64 D1, .int .i64 L0, .int .i64 L1, .int .i64 P0, .int .i64 P1, .slice B m d, .int .i64 0] wx)
    case first =>
      cases ho
      · skip
        have HB_q : ∀ w', Below wc.drew.heap.size wc.drew w' → Box w' q #[.int .i64 D0, .int .i64 D1, .int .i64 L0, .int .i64 L1, .int .i64 P0, .int .i64 P1, .slice B m d, .int .i64 0] := fun w' h => (X3.drew.box).below h
        have HB_k0 : ∀ w', Below wc.drew.heap.size wc.drew w' → Box w' k0 #[.int .i64 k.t, .int .i64 k.m, .int .i64 k.r, .int .i64 k.v, .int .i64 k.s, .bool k.dr, .bool k.sh, .bool k.st, .bool k.fa, .int .i64 k.ad, .int .i64 k.ti, .int .i64 k.ba, .int .i64 k.en, .bool k.od, .int .i64 k.ke, .bool k.wr, .int .i64 k.bd, .int .i64 k.ra, .bool k.kn, .int .i64 k.ou, .bool k.sl, .bool k.ov, .bool k.ak] := fun w' h => (X1.drew.box).below h
        have HI : ∀ w', Below wc.drew.heap.size wc.drew w' → Ints w' B m ys := fun w' h => (show Ints wc.drew B m ys from hi).below h
        obtain ⟨cs, hcs⟩ : ∃ cs : Nat → Value, (fun i => match i with
          | 0 => .pointer (some ⟨k0, 5, none⟩)
          | 1 => .pointer (some ⟨k0, 7, none⟩)
          | 2 => .bool k.st
          | 3 => .agg #[.int .i64 1, .bool k.st]
          | 4 => .bool false
          | 5 => .bool false
          | 6 => undef
          | 7 => undef
          | 8 => undef
          | 9 => undef
          | 10 => undef
          | 11 => undef
          | 12 => .bool false
          | 13 => .agg #[.int .i64 2, .bool false]
          | 14 => .pointer (some ⟨q, 0, none⟩)
          | 15 => .agg #[.int .i64 D0, .int .i64 D1]
          | 16 => .bool f0
          | 17 => .agg #[.int .i64 4, .bool f0]
          | 18 => .pointer (some ⟨q, 0, none⟩)
          | 19 => .agg #[.int .i64 D0, .int .i64 D1]
          | 20 => .bool f1
          | 21 => .agg #[.int .i64 8, .bool f1]
          | 22 => .pointer (some ⟨q, 2, none⟩)
          | 23 => .agg #[.int .i64 L0, .int .i64 L1]
          | 24 => .agg #[.int .i64 k.t, .int .i64 k.m, .int .i64 k.r, .int .i64 k.v, .int .i64 k.s, .bool k.dr, .bool k.sh, .bool k.st, .bool k.fa, .int .i64 k.ad, .int .i64 k.ti, .int .i64 k.ba, .int .i64 k.en, .bool k.od, .int .i64 k.ke, .bool k.wr, .int .i64 k.bd, .int .i64 k.ra, .bool k.kn, .int .i64 k.ou, .bool k.sl, .bool k.ov, .bool k.ak]
          | 25 => .bool mi
          | 26 => .agg #[.int .i64 16, .bool mi]
          | 27 => .pointer (some ⟨q, 2, none⟩)
          | 28 => .agg #[.int .i64 L0, .int .i64 L1]
          | 29 => .bool dy
          | 30 => .agg #[.int .i64 32, .bool dy]
          | 31 => .pointer (some ⟨q, 4, none⟩)
          | 32 => .agg #[.int .i64 P0, .int .i64 P1]
          | 33 => .bool v0
          | 34 => .agg #[.int .i64 64, .bool v0]
          | 35 => .pointer (some ⟨k0, 9, none⟩)
          | 36 => .pointer (some ⟨k0, 13, none⟩)
          | 37 => .bool k.od
          | 38 => .agg #[.int .i64 128, .bool k.od]
          | 39 => .pointer (some ⟨q, 4, none⟩)
          | 40 => .agg #[.int .i64 P0, .int .i64 P1]
          | 41 => .bool v1
          | 42 => .agg #[.int .i64 256, .bool v1]
          | 43 => .pointer (some ⟨k0, 20, none⟩)
          | 44 => .bool k.sl
          | 45 => .agg #[.int .i64 512, .bool k.sl]
          | 46 => .pointer (some ⟨k0, 5, none⟩)
          | 47 => .pointer (some ⟨k0, 8, none⟩)
          | 48 => .bool k.fa
          | 49 => .agg #[.int .i64 1024, .bool k.fa]
          | 50 => .pointer (some ⟨k0, 21, none⟩)
          | 51 => .bool k.ov
          | 52 => .agg #[.int .i64 2048, .bool k.ov]
          | _ => undef) = cs := ⟨_, rfl⟩
        have e0 : cs 0 = .pointer (some ⟨k0, 5, none⟩) := by rw [← hcs]; rfl
        have e1 : cs 1 = .pointer (some ⟨k0, 7, none⟩) := by rw [← hcs]; rfl
        have e2 : cs 2 = .bool k.st := by rw [← hcs]; rfl
        have e3 : cs 3 = .agg #[.int .i64 1, .bool k.st] := by rw [← hcs]; rfl
        have e4 : cs 4 = .bool false := by rw [← hcs]; rfl
        have e5 : cs 5 = .bool false := by rw [← hcs]; rfl
        have e6 : cs 6 = undef := by rw [← hcs]; rfl
        have e7 : cs 7 = undef := by rw [← hcs]; rfl
        have e8 : cs 8 = undef := by rw [← hcs]; rfl
        have e9 : cs 9 = undef := by rw [← hcs]; rfl
        have e10 : cs 10 = undef := by rw [← hcs]; rfl
        have e11 : cs 11 = undef := by rw [← hcs]; rfl
        have e12 : cs 12 = .bool false := by rw [← hcs]; rfl
        have e13 : cs 13 = .agg #[.int .i64 2, .bool false] := by rw [← hcs]; rfl
        have e14 : cs 14 = .pointer (some ⟨q, 0, none⟩) := by rw [← hcs]; rfl
        have e15 : cs 15 = .agg #[.int .i64 D0, .int .i64 D1] := by rw [← hcs]; rfl
        have e16 : cs 16 = .bool f0 := by rw [← hcs]; rfl
        have e17 : cs 17 = .agg #[.int .i64 4, .bool f0] := by rw [← hcs]; rfl
        have e18 : cs 18 = .pointer (some ⟨q, 0, none⟩) := by rw [← hcs]; rfl
        have e19 : cs 19 = .agg #[.int .i64 D0, .int .i64 D1] := by rw [← hcs]; rfl
        have e20 : cs 20 = .bool f1 := by rw [← hcs]; rfl
        have e21 : cs 21 = .agg #[.int .i64 8, .bool f1] := by rw [← hcs]; rfl
        have e22 : cs 22 = .pointer (some ⟨q, 2, none⟩) := by rw [← hcs]; rfl
        have e23 : cs 23 = .agg #[.int .i64 L0, .int .i64 L1] := by rw [← hcs]; rfl
        have e24 : cs 24 = .agg #[.int .i64 k.t, .int .i64 k.m, .int .i64 k.r, .int .i64 k.v, .int .i64 k.s, .bool k.dr, .bool k.sh, .bool k.st, .bool k.fa, .int .i64 k.ad, .int .i64 k.ti, .int .i64 k.ba, .int .i64 k.en, .bool k.od, .int .i64 k.ke, .bool k.wr, .int .i64 k.bd, .int .i64 k.ra, .bool k.kn, .int .i64 k.ou, .bool k.sl, .bool k.ov, .bool k.ak] := by rw [← hcs]; rfl
        have e25 : cs 25 = .bool mi := by rw [← hcs]; rfl
        have e26 : cs 26 = .agg #[.int .i64 16, .bool mi] := by rw [← hcs]; rfl
        have e27 : cs 27 = .pointer (some ⟨q, 2, none⟩) := by rw [← hcs]; rfl
        have e28 : cs 28 = .agg #[.int .i64 L0, .int .i64 L1] := by rw [← hcs]; rfl
        have e29 : cs 29 = .bool dy := by rw [← hcs]; rfl
        have e30 : cs 30 = .agg #[.int .i64 32, .bool dy] := by rw [← hcs]; rfl
        have e31 : cs 31 = .pointer (some ⟨q, 4, none⟩) := by rw [← hcs]; rfl
        have e32 : cs 32 = .agg #[.int .i64 P0, .int .i64 P1] := by rw [← hcs]; rfl
        have e33 : cs 33 = .bool v0 := by rw [← hcs]; rfl
        have e34 : cs 34 = .agg #[.int .i64 64, .bool v0] := by rw [← hcs]; rfl
        have e35 : cs 35 = .pointer (some ⟨k0, 9, none⟩) := by rw [← hcs]; rfl
        have e36 : cs 36 = .pointer (some ⟨k0, 13, none⟩) := by rw [← hcs]; rfl
        have e37 : cs 37 = .bool k.od := by rw [← hcs]; rfl
        have e38 : cs 38 = .agg #[.int .i64 128, .bool k.od] := by rw [← hcs]; rfl
        have e39 : cs 39 = .pointer (some ⟨q, 4, none⟩) := by rw [← hcs]; rfl
        have e40 : cs 40 = .agg #[.int .i64 P0, .int .i64 P1] := by rw [← hcs]; rfl
        have e41 : cs 41 = .bool v1 := by rw [← hcs]; rfl
        have e42 : cs 42 = .agg #[.int .i64 256, .bool v1] := by rw [← hcs]; rfl
        have e43 : cs 43 = .pointer (some ⟨k0, 20, none⟩) := by rw [← hcs]; rfl
        have e44 : cs 44 = .bool k.sl := by rw [← hcs]; rfl
        have e45 : cs 45 = .agg #[.int .i64 512, .bool k.sl] := by rw [← hcs]; rfl
        have e46 : cs 46 = .pointer (some ⟨k0, 5, none⟩) := by rw [← hcs]; rfl
        have e47 : cs 47 = .pointer (some ⟨k0, 8, none⟩) := by rw [← hcs]; rfl
        have e48 : cs 48 = .bool k.fa := by rw [← hcs]; rfl
        have e49 : cs 49 = .agg #[.int .i64 1024, .bool k.fa] := by rw [← hcs]; rfl
        have e50 : cs 50 = .pointer (some ⟨k0, 21, none⟩) := by rw [← hcs]; rfl
        have e51 : cs 51 = .bool k.ov := by rw [← hcs]; rfl
        have e52 : cs 52 = .agg #[.int .i64 2048, .bool k.ov] := by rw [← hcs]; rfl
        clear hcs
        refine wp_region_loose 55 117 (by kernel_rfl) (by kernel_rfl) rfl (fun w w' => Below w.heap.size w w') (fun w => Below.refl _ _) (fun a b c h g => below_call h g)
          (looseD (fun i => if i = 53 then some fun v w' => ∃ s0, v = .slice (some ⟨s0, 0, none⟩) 12 12 ∧ Box w' s0 #[.int .i64 1, .bool k.st, .int .i64 2, .bool false, .int .i64 4, .bool f0, .int .i64 8, .bool f1, .int .i64 16, .bool mi, .int .i64 32, .bool dy, .int .i64 64, .bool v0, .int .i64 128, .bool k.od, .int .i64 256, .bool v1, .int .i64 512, .bool k.sl, .int .i64 1024, .bool k.fa, .int .i64 2048, .bool k.ov] else if i = 54 then some fun v w' => v = .int .i64 (smV [(1, k.st), (2, false), (4, f0), (8, f1), (16, mi), (32, dy), (64, v0), (128, k.od), (256, v1), (512, k.sl), (1024, k.fa), (2048, k.ov)]) else none) cs)
          (fun _ _ _ => True) (looseD_stable ?_) (fun _ _ _ _ _ _ _ _ => trivial) trivial ?_ ?_
        · intro i p hp v u u' h hE
          split at hp
          · cases hp; obtain ⟨s0, h1, h2⟩ := h; exact ⟨s0, h1, h2.below hE⟩
          · split at hp
            · cases hp; exact h
            · cases hp
        · simp only [List.take_succ_cons, List.take_zero]
          refine looseAll_cons (k := 1) rfl (fun a u L hE hev hkn _ _ => ?_) ?_
          · have kc : ∀ c, a.eval (.const c) = c := fun _ => rfl
            have kf : ∀ f, a.eval (.func f) = .func (.func f) #[] #[] := fun _ => rfl
            have t3 : a.eval (.tmp 3) = .pointer (some ⟨k0, 0, none⟩) := hev 3 (by kernel_rfl)
            exact loose_val rfl (v := .pointer (some ⟨k0, 5, none⟩)) (by generalize a.eval = ev at *; simp [go_sem, kc, kf, t3]) ⟨Below.refl _ _, e0.symm, trivial⟩
          refine looseAll_cons (k := 2) rfl (fun a u L hE hev hkn _ _ => ?_) ?_
          · have kc : ∀ c, a.eval (.const c) = c := fun _ => rfl
            have kf : ∀ f, a.eval (.func f) = .func (.func f) #[] #[] := fun _ => rfl
            have t54 : a.eval (.tmp 54) = .pointer (some ⟨k0, 5, none⟩) := (hkn 0 (by kernel_rfl) : a.eval (.tmp 54) = cs 0).trans e0
            exact loose_val rfl (v := .pointer (some ⟨k0, 7, none⟩)) (by generalize a.eval = ev at *; simp [go_sem, kc, kf, t54]) ⟨Below.refl _ _, e1.symm, trivial⟩
          refine looseAll_cons (k := 3) rfl (fun a u L hE hev hkn _ _ => ?_) ?_
          · have kc : ∀ c, a.eval (.const c) = c := fun _ => rfl
            have kf : ∀ f, a.eval (.func f) = .func (.func f) #[] #[] := fun _ => rfl
            have C_k0 := (HB_k0 u hE).2.1
            have t55 : a.eval (.tmp 55) = .pointer (some ⟨k0, 7, none⟩) := (hkn 1 (by kernel_rfl) : a.eval (.tmp 55) = cs 1).trans e1
            exact loose_val rfl (v := .bool k.st) (by generalize a.eval = ev at *; simp [go_sem, kc, kf, t55, C_k0]) ⟨Below.refl _ _, e2.symm, trivial⟩
          refine looseAll_cons (k := 4) rfl (fun a u L hE hev hkn _ _ => ?_) ?_
          · have kc : ∀ c, a.eval (.const c) = c := fun _ => rfl
            have kf : ∀ f, a.eval (.func f) = .func (.func f) #[] #[] := fun _ => rfl
            have t56 : a.eval (.tmp 56) = .bool k.st := (hkn 2 (by kernel_rfl) : a.eval (.tmp 56) = cs 2).trans e2
            exact loose_val rfl (v := .agg #[.int .i64 1, .bool k.st]) (by generalize a.eval = ev at *; simp [go_sem, kc, kf, t56]) ⟨Below.refl _ _, e3.symm, trivial⟩
          refine looseAll_cons (k := 5) rfl (fun a u L hE hev hkn _ _ => ?_) ?_
          · have kc : ∀ c, a.eval (.const c) = c := fun _ => rfl
            have kf : ∀ f, a.eval (.func f) = .func (.func f) #[] #[] := fun _ => rfl
            have t7 : a.eval (.tmp 7) = .bool false := hev 7 (by kernel_rfl)
            exact loose_val rfl (v := .bool false) (by generalize a.eval = ev at *; simp [go_sem, kc, kf, t7]) ⟨Below.refl _ _, e4.symm, trivial⟩
          refine looseAll_cons (k := 6) rfl (fun a u L hE hev hkn _ _ => ?_) ?_
          · have kc : ∀ c, a.eval (.const c) = c := fun _ => rfl
            have kf : ∀ f, a.eval (.func f) = .func (.func f) #[] #[] := fun _ => rfl
            have t58 : a.eval (.tmp 58) = .bool false := (hkn 4 (by kernel_rfl) : a.eval (.tmp 58) = cs 4).trans e4
            exact loose_val rfl (v := .bool false) (by generalize a.eval = ev at *; simp [go_sem, kc, kf, t58]) ⟨Below.refl _ _, e5.symm, trivial⟩
          refine looseAll_cons (k := 7) rfl (fun a u L hE hev hkn _ _ => ?_) ?_
          · have tg : a.eval (.tmp 59) = .bool false := (hkn 5 (by kernel_rfl) : a.eval (.tmp 59) = cs 5).trans e5
            exact loose_skip ((loose_guard rfl rfl tg).trans (by decide)) ⟨Below.refl _ _, e6.symm, trivial⟩
          refine looseAll_cons (k := 8) rfl (fun a u L hE hev hkn _ _ => ?_) ?_
          · have tg : a.eval (.tmp 59) = .bool false := (hkn 5 (by kernel_rfl) : a.eval (.tmp 59) = cs 5).trans e5
            exact loose_skip ((loose_guard rfl rfl tg).trans (by decide)) ⟨Below.refl _ _, e7.symm, trivial⟩
          refine looseAll_cons (k := 9) rfl (fun a u L hE hev hkn _ _ => ?_) ?_
          · have tg : a.eval (.tmp 59) = .bool false := (hkn 5 (by kernel_rfl) : a.eval (.tmp 59) = cs 5).trans e5
            exact loose_skip ((loose_guard rfl rfl tg).trans (by decide)) ⟨Below.refl _ _, e8.symm, trivial⟩
          refine looseAll_cons (k := 10) rfl (fun a u L hE hev hkn _ _ => ?_) ?_
          · have tg : a.eval (.tmp 59) = .bool false := (hkn 5 (by kernel_rfl) : a.eval (.tmp 59) = cs 5).trans e5
            exact loose_skip ((loose_guard rfl rfl tg).trans (by decide)) ⟨Below.refl _ _, e9.symm, trivial⟩
          refine looseAll_cons (k := 11) rfl (fun a u L hE hev hkn _ _ => ?_) ?_
          · have tg : a.eval (.tmp 59) = .bool false := (hkn 5 (by kernel_rfl) : a.eval (.tmp 59) = cs 5).trans e5
            exact loose_skip ((loose_guard rfl rfl tg).trans (by decide)) ⟨Below.refl _ _, e10.symm, trivial⟩
          refine looseAll_cons (k := 12) rfl (fun a u L hE hev hkn _ _ => ?_) ?_
          · have tg : a.eval (.tmp 59) = .bool false := (hkn 5 (by kernel_rfl) : a.eval (.tmp 59) = cs 5).trans e5
            exact loose_skip ((loose_guard rfl rfl tg).trans (by decide)) ⟨Below.refl _ _, e11.symm, trivial⟩
          refine looseAll_cons (k := 13) rfl (fun a u L hE hev hkn _ _ => ?_) ?_
          · have kc : ∀ c, a.eval (.const c) = c := fun _ => rfl
            have kf : ∀ f, a.eval (.func f) = .func (.func f) #[] #[] := fun _ => rfl
            have t59 : a.eval (.tmp 59) = .bool false := (hkn 5 (by kernel_rfl) : a.eval (.tmp 59) = cs 5).trans e5
            have t65 : a.eval (.tmp 65) = undef := (hkn 11 (by kernel_rfl) : a.eval (.tmp 65) = cs 11).trans e11
            exact loose_val rfl (v := .bool false) (by generalize a.eval = ev at *; simp [go_sem, kc, kf, t59, t65]) ⟨Below.refl _ _, e12.symm, trivial⟩
          refine looseAll_cons (k := 14) rfl (fun a u L hE hev hkn _ _ => ?_) ?_
          · have kc : ∀ c, a.eval (.const c) = c := fun _ => rfl
            have kf : ∀ f, a.eval (.func f) = .func (.func f) #[] #[] := fun _ => rfl
            have t66 : a.eval (.tmp 66) = .bool false := (hkn 12 (by kernel_rfl) : a.eval (.tmp 66) = cs 12).trans e12
            exact loose_val rfl (v := .agg #[.int .i64 2, .bool false]) (by generalize a.eval = ev at *; simp [go_sem, kc, kf, t66]) ⟨Below.refl _ _, e13.symm, trivial⟩
          refine looseAll_cons (k := 15) rfl (fun a u L hE hev hkn _ _ => ?_) ?_
          · have kc : ∀ c, a.eval (.const c) = c := fun _ => rfl
            have kf : ∀ f, a.eval (.func f) = .func (.func f) #[] #[] := fun _ => rfl
            have t8 : a.eval (.tmp 8) = .pointer (some ⟨q, 0, none⟩) := hev 8 (by kernel_rfl)
            exact loose_val rfl (v := .pointer (some ⟨q, 0, none⟩)) (by generalize a.eval = ev at *; simp [go_sem, kc, kf, t8]) ⟨Below.refl _ _, e14.symm, trivial⟩
          refine looseAll_cons (k := 16) rfl (fun a u L hE hev hkn _ _ => ?_) ?_
          · have kc : ∀ c, a.eval (.const c) = c := fun _ => rfl
            have kf : ∀ f, a.eval (.func f) = .func (.func f) #[] #[] := fun _ => rfl
            have C_q := (HB_q u hE).2.1
            have t68 : a.eval (.tmp 68) = .pointer (some ⟨q, 0, none⟩) := (hkn 14 (by kernel_rfl) : a.eval (.tmp 68) = cs 14).trans e14
            exact loose_val rfl (v := .agg #[.int .i64 D0, .int .i64 D1]) (by generalize a.eval = ev at *; simp [go_sem, kc, kf, t68, C_q]) ⟨Below.refl _ _, e15.symm, trivial⟩
          refine looseAll_cons (k := 17) rfl (fun a u L hE hev hkn _ _ => ?_) ?_
          · have kc : ∀ c, a.eval (.const c) = c := fun _ => rfl
            have kf : ∀ f, a.eval (.func f) = .func (.func f) #[] #[] := fun _ => rfl
            have t69 : a.eval (.tmp 69) = .agg #[.int .i64 D0, .int .i64 D1] := (hkn 15 (by kernel_rfl) : a.eval (.tmp 69) = cs 15).trans e15
            exact loose_call rfl (by generalize a.eval = ev at *; simp [go_sem, kc, kf, t69]) ((HF0.out u).mono fun e w' h => ⟨.bool f0, h.1, h.2, e16.symm, trivial⟩)
          refine looseAll_cons (k := 18) rfl (fun a u L hE hev hkn _ _ => ?_) ?_
          · have kc : ∀ c, a.eval (.const c) = c := fun _ => rfl
            have kf : ∀ f, a.eval (.func f) = .func (.func f) #[] #[] := fun _ => rfl
            have t70 : a.eval (.tmp 70) = .bool f0 := (hkn 16 (by kernel_rfl) : a.eval (.tmp 70) = cs 16).trans e16
            exact loose_val rfl (v := .agg #[.int .i64 4, .bool f0]) (by generalize a.eval = ev at *; simp [go_sem, kc, kf, t70]) ⟨Below.refl _ _, e17.symm, trivial⟩
          refine looseAll_cons (k := 19) rfl (fun a u L hE hev hkn _ _ => ?_) ?_
          · have kc : ∀ c, a.eval (.const c) = c := fun _ => rfl
            have kf : ∀ f, a.eval (.func f) = .func (.func f) #[] #[] := fun _ => rfl
            have t8 : a.eval (.tmp 8) = .pointer (some ⟨q, 0, none⟩) := hev 8 (by kernel_rfl)
            exact loose_val rfl (v := .pointer (some ⟨q, 0, none⟩)) (by generalize a.eval = ev at *; simp [go_sem, kc, kf, t8]) ⟨Below.refl _ _, e18.symm, trivial⟩
          refine looseAll_cons (k := 20) rfl (fun a u L hE hev hkn _ _ => ?_) ?_
          · have kc : ∀ c, a.eval (.const c) = c := fun _ => rfl
            have kf : ∀ f, a.eval (.func f) = .func (.func f) #[] #[] := fun _ => rfl
            have C_q := (HB_q u hE).2.1
            have t72 : a.eval (.tmp 72) = .pointer (some ⟨q, 0, none⟩) := (hkn 18 (by kernel_rfl) : a.eval (.tmp 72) = cs 18).trans e18
            exact loose_val rfl (v := .agg #[.int .i64 D0, .int .i64 D1]) (by generalize a.eval = ev at *; simp [go_sem, kc, kf, t72, C_q]) ⟨Below.refl _ _, e19.symm, trivial⟩
          refine looseAll_cons (k := 21) rfl (fun a u L hE hev hkn _ _ => ?_) ?_
          · have kc : ∀ c, a.eval (.const c) = c := fun _ => rfl
            have kf : ∀ f, a.eval (.func f) = .func (.func f) #[] #[] := fun _ => rfl
            have t73 : a.eval (.tmp 73) = .agg #[.int .i64 D0, .int .i64 D1] := (hkn 19 (by kernel_rfl) : a.eval (.tmp 73) = cs 19).trans e19
            exact loose_call rfl (by generalize a.eval = ev at *; simp [go_sem, kc, kf, t73]) ((HF1.out u).mono fun e w' h => ⟨.bool f1, h.1, h.2, e20.symm, trivial⟩)
          refine looseAll_cons (k := 22) rfl (fun a u L hE hev hkn _ _ => ?_) ?_
          · have kc : ∀ c, a.eval (.const c) = c := fun _ => rfl
            have kf : ∀ f, a.eval (.func f) = .func (.func f) #[] #[] := fun _ => rfl
            have t74 : a.eval (.tmp 74) = .bool f1 := (hkn 20 (by kernel_rfl) : a.eval (.tmp 74) = cs 20).trans e20
            exact loose_val rfl (v := .agg #[.int .i64 8, .bool f1]) (by generalize a.eval = ev at *; simp [go_sem, kc, kf, t74]) ⟨Below.refl _ _, e21.symm, trivial⟩
          refine looseAll_cons (k := 23) rfl (fun a u L hE hev hkn _ _ => ?_) ?_
          · have kc : ∀ c, a.eval (.const c) = c := fun _ => rfl
            have kf : ∀ f, a.eval (.func f) = .func (.func f) #[] #[] := fun _ => rfl
            have t8 : a.eval (.tmp 8) = .pointer (some ⟨q, 0, none⟩) := hev 8 (by kernel_rfl)
            exact loose_val rfl (v := .pointer (some ⟨q, 2, none⟩)) (by generalize a.eval = ev at *; simp [go_sem, kc, kf, t8]) ⟨Below.refl _ _, e22.symm, trivial⟩
          refine looseAll_cons (k := 24) rfl (fun a u L hE hev hkn _ _ => ?_) ?_
          · have kc : ∀ c, a.eval (.const c) = c := fun _ => rfl
            have kf : ∀ f, a.eval (.func f) = .func (.func f) #[] #[] := fun _ => rfl
            have C_q := (HB_q u hE).2.1
            have t76 : a.eval (.tmp 76) = .pointer (some ⟨q, 2, none⟩) := (hkn 22 (by kernel_rfl) : a.eval (.tmp 76) = cs 22).trans e22
            exact loose_val rfl (v := .agg #[.int .i64 L0, .int .i64 L1]) (by generalize a.eval = ev at *; simp [go_sem, kc, kf, t76, C_q]) ⟨Below.refl _ _, e23.symm, trivial⟩
          refine looseAll_cons (k := 25) rfl (fun a u L hE hev hkn _ _ => ?_) ?_
          · have HBX := HB_k0 u hE
            have kc : ∀ c, a.eval (.const c) = c := fun _ => rfl
            have kf : ∀ f, a.eval (.func f) = .func (.func f) #[] #[] := fun _ => rfl
            have t3 : a.eval (.tmp 3) = .pointer (some ⟨k0, 0, none⟩) := hev 3 (by kernel_rfl)
            exact loose_load rfl _ _ rfl k0 t3 #[.int .i64 k.t, .int .i64 k.m, .int .i64 k.r, .int .i64 k.v, .int .i64 k.s, .bool k.dr, .bool k.sh, .bool k.st, .bool k.fa, .int .i64 k.ad, .int .i64 k.ti, .int .i64 k.ba, .int .i64 k.en, .bool k.od, .int .i64 k.ke, .bool k.wr, .int .i64 k.bd, .int .i64 k.ra, .bool k.kn, .int .i64 k.ou, .bool k.sl, .bool k.ov, .bool k.ak] _ HBX Tryz.underlying38 rfl (by kernel_rfl) ⟨Below.refl _ _, e24.symm, trivial⟩
          refine looseAll_cons (k := 26) rfl (fun a u L hE hev hkn _ _ => ?_) ?_
          · have kc : ∀ c, a.eval (.const c) = c := fun _ => rfl
            have kf : ∀ f, a.eval (.func f) = .func (.func f) #[] #[] := fun _ => rfl
            have t77 : a.eval (.tmp 77) = .agg #[.int .i64 L0, .int .i64 L1] := (hkn 23 (by kernel_rfl) : a.eval (.tmp 77) = cs 23).trans e23
            have t78 : a.eval (.tmp 78) = .agg #[.int .i64 k.t, .int .i64 k.m, .int .i64 k.r, .int .i64 k.v, .int .i64 k.s, .bool k.dr, .bool k.sh, .bool k.st, .bool k.fa, .int .i64 k.ad, .int .i64 k.ti, .int .i64 k.ba, .int .i64 k.en, .bool k.od, .int .i64 k.ke, .bool k.wr, .int .i64 k.bd, .int .i64 k.ra, .bool k.kn, .int .i64 k.ou, .bool k.sl, .bool k.ov, .bool k.ak] := (hkn 24 (by kernel_rfl) : a.eval (.tmp 78) = cs 24).trans e24
            exact loose_call rfl (by generalize a.eval = ev at *; simp [go_sem, kc, kf, t77, t78]) ((HMI.out u).mono fun e w' h => ⟨.bool mi, h.1, h.2, e25.symm, trivial⟩)
          refine looseAll_cons (k := 27) rfl (fun a u L hE hev hkn _ _ => ?_) ?_
          · have kc : ∀ c, a.eval (.const c) = c := fun _ => rfl
            have kf : ∀ f, a.eval (.func f) = .func (.func f) #[] #[] := fun _ => rfl
            have t79 : a.eval (.tmp 79) = .bool mi := (hkn 25 (by kernel_rfl) : a.eval (.tmp 79) = cs 25).trans e25
            exact loose_val rfl (v := .agg #[.int .i64 16, .bool mi]) (by generalize a.eval = ev at *; simp [go_sem, kc, kf, t79]) ⟨Below.refl _ _, e26.symm, trivial⟩
          refine looseAll_cons (k := 28) rfl (fun a u L hE hev hkn _ _ => ?_) ?_
          · have kc : ∀ c, a.eval (.const c) = c := fun _ => rfl
            have kf : ∀ f, a.eval (.func f) = .func (.func f) #[] #[] := fun _ => rfl
            have t8 : a.eval (.tmp 8) = .pointer (some ⟨q, 0, none⟩) := hev 8 (by kernel_rfl)
            exact loose_val rfl (v := .pointer (some ⟨q, 2, none⟩)) (by generalize a.eval = ev at *; simp [go_sem, kc, kf, t8]) ⟨Below.refl _ _, e27.symm, trivial⟩
          refine looseAll_cons (k := 29) rfl (fun a u L hE hev hkn _ _ => ?_) ?_
          · have kc : ∀ c, a.eval (.const c) = c := fun _ => rfl
            have kf : ∀ f, a.eval (.func f) = .func (.func f) #[] #[] := fun _ => rfl
            have C_q := (HB_q u hE).2.1
            have t81 : a.eval (.tmp 81) = .pointer (some ⟨q, 2, none⟩) := (hkn 27 (by kernel_rfl) : a.eval (.tmp 81) = cs 27).trans e27
            exact loose_val rfl (v := .agg #[.int .i64 L0, .int .i64 L1]) (by generalize a.eval = ev at *; simp [go_sem, kc, kf, t81, C_q]) ⟨Below.refl _ _, e28.symm, trivial⟩
          refine looseAll_cons (k := 30) rfl (fun a u L hE hev hkn _ _ => ?_) ?_
          · have kc : ∀ c, a.eval (.const c) = c := fun _ => rfl
            have kf : ∀ f, a.eval (.func f) = .func (.func f) #[] #[] := fun _ => rfl
            have t82 : a.eval (.tmp 82) = .agg #[.int .i64 L0, .int .i64 L1] := (hkn 28 (by kernel_rfl) : a.eval (.tmp 82) = cs 28).trans e28
            exact loose_call rfl (by generalize a.eval = ev at *; simp [go_sem, kc, kf, t82]) ((HDY.out u).mono fun e w' h => ⟨.bool dy, h.1, h.2, e29.symm, trivial⟩)
          refine looseAll_cons (k := 31) rfl (fun a u L hE hev hkn _ _ => ?_) ?_
          · have kc : ∀ c, a.eval (.const c) = c := fun _ => rfl
            have kf : ∀ f, a.eval (.func f) = .func (.func f) #[] #[] := fun _ => rfl
            have t83 : a.eval (.tmp 83) = .bool dy := (hkn 29 (by kernel_rfl) : a.eval (.tmp 83) = cs 29).trans e29
            exact loose_val rfl (v := .agg #[.int .i64 32, .bool dy]) (by generalize a.eval = ev at *; simp [go_sem, kc, kf, t83]) ⟨Below.refl _ _, e30.symm, trivial⟩
          refine looseAll_cons (k := 32) rfl (fun a u L hE hev hkn _ _ => ?_) ?_
          · have kc : ∀ c, a.eval (.const c) = c := fun _ => rfl
            have kf : ∀ f, a.eval (.func f) = .func (.func f) #[] #[] := fun _ => rfl
            have t8 : a.eval (.tmp 8) = .pointer (some ⟨q, 0, none⟩) := hev 8 (by kernel_rfl)
            exact loose_val rfl (v := .pointer (some ⟨q, 4, none⟩)) (by generalize a.eval = ev at *; simp [go_sem, kc, kf, t8]) ⟨Below.refl _ _, e31.symm, trivial⟩
          refine looseAll_cons (k := 33) rfl (fun a u L hE hev hkn _ _ => ?_) ?_
          · have kc : ∀ c, a.eval (.const c) = c := fun _ => rfl
            have kf : ∀ f, a.eval (.func f) = .func (.func f) #[] #[] := fun _ => rfl
            have C_q := (HB_q u hE).2.1
            have t85 : a.eval (.tmp 85) = .pointer (some ⟨q, 4, none⟩) := (hkn 31 (by kernel_rfl) : a.eval (.tmp 85) = cs 31).trans e31
            exact loose_val rfl (v := .agg #[.int .i64 P0, .int .i64 P1]) (by generalize a.eval = ev at *; simp [go_sem, kc, kf, t85, C_q]) ⟨Below.refl _ _, e32.symm, trivial⟩
          refine looseAll_cons (k := 34) rfl (fun a u L hE hev hkn _ _ => ?_) ?_
          · have kc : ∀ c, a.eval (.const c) = c := fun _ => rfl
            have kf : ∀ f, a.eval (.func f) = .func (.func f) #[] #[] := fun _ => rfl
            have t86 : a.eval (.tmp 86) = .agg #[.int .i64 P0, .int .i64 P1] := (hkn 32 (by kernel_rfl) : a.eval (.tmp 86) = cs 32).trans e32
            exact loose_call rfl (by generalize a.eval = ev at *; simp [go_sem, kc, kf, t86]) ((HT0.out u).mono fun e w' h => ⟨.bool v0, h.1, h.2, e33.symm, trivial⟩)
          refine looseAll_cons (k := 35) rfl (fun a u L hE hev hkn _ _ => ?_) ?_
          · have kc : ∀ c, a.eval (.const c) = c := fun _ => rfl
            have kf : ∀ f, a.eval (.func f) = .func (.func f) #[] #[] := fun _ => rfl
            have t87 : a.eval (.tmp 87) = .bool v0 := (hkn 33 (by kernel_rfl) : a.eval (.tmp 87) = cs 33).trans e33
            exact loose_val rfl (v := .agg #[.int .i64 64, .bool v0]) (by generalize a.eval = ev at *; simp [go_sem, kc, kf, t87]) ⟨Below.refl _ _, e34.symm, trivial⟩
          refine looseAll_cons (k := 36) rfl (fun a u L hE hev hkn _ _ => ?_) ?_
          · have kc : ∀ c, a.eval (.const c) = c := fun _ => rfl
            have kf : ∀ f, a.eval (.func f) = .func (.func f) #[] #[] := fun _ => rfl
            have t3 : a.eval (.tmp 3) = .pointer (some ⟨k0, 0, none⟩) := hev 3 (by kernel_rfl)
            exact loose_val rfl (v := .pointer (some ⟨k0, 9, none⟩)) (by generalize a.eval = ev at *; simp [go_sem, kc, kf, t3]) ⟨Below.refl _ _, e35.symm, trivial⟩
          refine looseAll_cons (k := 37) rfl (fun a u L hE hev hkn _ _ => ?_) ?_
          · have kc : ∀ c, a.eval (.const c) = c := fun _ => rfl
            have kf : ∀ f, a.eval (.func f) = .func (.func f) #[] #[] := fun _ => rfl
            have t89 : a.eval (.tmp 89) = .pointer (some ⟨k0, 9, none⟩) := (hkn 35 (by kernel_rfl) : a.eval (.tmp 89) = cs 35).trans e35
            exact loose_val rfl (v := .pointer (some ⟨k0, 13, none⟩)) (by generalize a.eval = ev at *; simp [go_sem, kc, kf, t89]) ⟨Below.refl _ _, e36.symm, trivial⟩
          refine looseAll_cons (k := 38) rfl (fun a u L hE hev hkn _ _ => ?_) ?_
          · have kc : ∀ c, a.eval (.const c) = c := fun _ => rfl
            have kf : ∀ f, a.eval (.func f) = .func (.func f) #[] #[] := fun _ => rfl
            have C_k0 := (HB_k0 u hE).2.1
            have t90 : a.eval (.tmp 90) = .pointer (some ⟨k0, 13, none⟩) := (hkn 36 (by kernel_rfl) : a.eval (.tmp 90) = cs 36).trans e36
            exact loose_val rfl (v := .bool k.od) (by generalize a.eval = ev at *; simp [go_sem, kc, kf, t90, C_k0]) ⟨Below.refl _ _, e37.symm, trivial⟩
          refine looseAll_cons (k := 39) rfl (fun a u L hE hev hkn _ _ => ?_) ?_
          · have kc : ∀ c, a.eval (.const c) = c := fun _ => rfl
            have kf : ∀ f, a.eval (.func f) = .func (.func f) #[] #[] := fun _ => rfl
            have t91 : a.eval (.tmp 91) = .bool k.od := (hkn 37 (by kernel_rfl) : a.eval (.tmp 91) = cs 37).trans e37
            exact loose_val rfl (v := .agg #[.int .i64 128, .bool k.od]) (by generalize a.eval = ev at *; simp [go_sem, kc, kf, t91]) ⟨Below.refl _ _, e38.symm, trivial⟩
          refine looseAll_cons (k := 40) rfl (fun a u L hE hev hkn _ _ => ?_) ?_
          · have kc : ∀ c, a.eval (.const c) = c := fun _ => rfl
            have kf : ∀ f, a.eval (.func f) = .func (.func f) #[] #[] := fun _ => rfl
            have t8 : a.eval (.tmp 8) = .pointer (some ⟨q, 0, none⟩) := hev 8 (by kernel_rfl)
            exact loose_val rfl (v := .pointer (some ⟨q, 4, none⟩)) (by generalize a.eval = ev at *; simp [go_sem, kc, kf, t8]) ⟨Below.refl _ _, e39.symm, trivial⟩
          refine looseAll_cons (k := 41) rfl (fun a u L hE hev hkn _ _ => ?_) ?_
          · have kc : ∀ c, a.eval (.const c) = c := fun _ => rfl
            have kf : ∀ f, a.eval (.func f) = .func (.func f) #[] #[] := fun _ => rfl
            have C_q := (HB_q u hE).2.1
            have t93 : a.eval (.tmp 93) = .pointer (some ⟨q, 4, none⟩) := (hkn 39 (by kernel_rfl) : a.eval (.tmp 93) = cs 39).trans e39
            exact loose_val rfl (v := .agg #[.int .i64 P0, .int .i64 P1]) (by generalize a.eval = ev at *; simp [go_sem, kc, kf, t93, C_q]) ⟨Below.refl _ _, e40.symm, trivial⟩
          refine looseAll_cons (k := 42) rfl (fun a u L hE hev hkn _ _ => ?_) ?_
          · have kc : ∀ c, a.eval (.const c) = c := fun _ => rfl
            have kf : ∀ f, a.eval (.func f) = .func (.func f) #[] #[] := fun _ => rfl
            have t94 : a.eval (.tmp 94) = .agg #[.int .i64 P0, .int .i64 P1] := (hkn 40 (by kernel_rfl) : a.eval (.tmp 94) = cs 40).trans e40
            exact loose_call rfl (by generalize a.eval = ev at *; simp [go_sem, kc, kf, t94]) ((HT1.out u).mono fun e w' h => ⟨.bool v1, h.1, h.2, e41.symm, trivial⟩)
          refine looseAll_cons (k := 43) rfl (fun a u L hE hev hkn _ _ => ?_) ?_
          · have kc : ∀ c, a.eval (.const c) = c := fun _ => rfl
            have kf : ∀ f, a.eval (.func f) = .func (.func f) #[] #[] := fun _ => rfl
            have t95 : a.eval (.tmp 95) = .bool v1 := (hkn 41 (by kernel_rfl) : a.eval (.tmp 95) = cs 41).trans e41
            exact loose_val rfl (v := .agg #[.int .i64 256, .bool v1]) (by generalize a.eval = ev at *; simp [go_sem, kc, kf, t95]) ⟨Below.refl _ _, e42.symm, trivial⟩
          refine looseAll_cons (k := 44) rfl (fun a u L hE hev hkn _ _ => ?_) ?_
          · have kc : ∀ c, a.eval (.const c) = c := fun _ => rfl
            have kf : ∀ f, a.eval (.func f) = .func (.func f) #[] #[] := fun _ => rfl
            have t3 : a.eval (.tmp 3) = .pointer (some ⟨k0, 0, none⟩) := hev 3 (by kernel_rfl)
            exact loose_val rfl (v := .pointer (some ⟨k0, 20, none⟩)) (by generalize a.eval = ev at *; simp [go_sem, kc, kf, t3]) ⟨Below.refl _ _, e43.symm, trivial⟩
          refine looseAll_cons (k := 45) rfl (fun a u L hE hev hkn _ _ => ?_) ?_
          · have kc : ∀ c, a.eval (.const c) = c := fun _ => rfl
            have kf : ∀ f, a.eval (.func f) = .func (.func f) #[] #[] := fun _ => rfl
            have C_k0 := (HB_k0 u hE).2.1
            have t97 : a.eval (.tmp 97) = .pointer (some ⟨k0, 20, none⟩) := (hkn 43 (by kernel_rfl) : a.eval (.tmp 97) = cs 43).trans e43
            exact loose_val rfl (v := .bool k.sl) (by generalize a.eval = ev at *; simp [go_sem, kc, kf, t97, C_k0]) ⟨Below.refl _ _, e44.symm, trivial⟩
          refine looseAll_cons (k := 46) rfl (fun a u L hE hev hkn _ _ => ?_) ?_
          · have kc : ∀ c, a.eval (.const c) = c := fun _ => rfl
            have kf : ∀ f, a.eval (.func f) = .func (.func f) #[] #[] := fun _ => rfl
            have t98 : a.eval (.tmp 98) = .bool k.sl := (hkn 44 (by kernel_rfl) : a.eval (.tmp 98) = cs 44).trans e44
            exact loose_val rfl (v := .agg #[.int .i64 512, .bool k.sl]) (by generalize a.eval = ev at *; simp [go_sem, kc, kf, t98]) ⟨Below.refl _ _, e45.symm, trivial⟩
          refine looseAll_cons (k := 47) rfl (fun a u L hE hev hkn _ _ => ?_) ?_
          · have kc : ∀ c, a.eval (.const c) = c := fun _ => rfl
            have kf : ∀ f, a.eval (.func f) = .func (.func f) #[] #[] := fun _ => rfl
            have t3 : a.eval (.tmp 3) = .pointer (some ⟨k0, 0, none⟩) := hev 3 (by kernel_rfl)
            exact loose_val rfl (v := .pointer (some ⟨k0, 5, none⟩)) (by generalize a.eval = ev at *; simp [go_sem, kc, kf, t3]) ⟨Below.refl _ _, e46.symm, trivial⟩
          refine looseAll_cons (k := 48) rfl (fun a u L hE hev hkn _ _ => ?_) ?_
          · have kc : ∀ c, a.eval (.const c) = c := fun _ => rfl
            have kf : ∀ f, a.eval (.func f) = .func (.func f) #[] #[] := fun _ => rfl
            have t100 : a.eval (.tmp 100) = .pointer (some ⟨k0, 5, none⟩) := (hkn 46 (by kernel_rfl) : a.eval (.tmp 100) = cs 46).trans e46
            exact loose_val rfl (v := .pointer (some ⟨k0, 8, none⟩)) (by generalize a.eval = ev at *; simp [go_sem, kc, kf, t100]) ⟨Below.refl _ _, e47.symm, trivial⟩
          refine looseAll_cons (k := 49) rfl (fun a u L hE hev hkn _ _ => ?_) ?_
          · have kc : ∀ c, a.eval (.const c) = c := fun _ => rfl
            have kf : ∀ f, a.eval (.func f) = .func (.func f) #[] #[] := fun _ => rfl
            have C_k0 := (HB_k0 u hE).2.1
            have t101 : a.eval (.tmp 101) = .pointer (some ⟨k0, 8, none⟩) := (hkn 47 (by kernel_rfl) : a.eval (.tmp 101) = cs 47).trans e47
            exact loose_val rfl (v := .bool k.fa) (by generalize a.eval = ev at *; simp [go_sem, kc, kf, t101, C_k0]) ⟨Below.refl _ _, e48.symm, trivial⟩
          refine looseAll_cons (k := 50) rfl (fun a u L hE hev hkn _ _ => ?_) ?_
          · have kc : ∀ c, a.eval (.const c) = c := fun _ => rfl
            have kf : ∀ f, a.eval (.func f) = .func (.func f) #[] #[] := fun _ => rfl
            have t102 : a.eval (.tmp 102) = .bool k.fa := (hkn 48 (by kernel_rfl) : a.eval (.tmp 102) = cs 48).trans e48
            exact loose_val rfl (v := .agg #[.int .i64 1024, .bool k.fa]) (by generalize a.eval = ev at *; simp [go_sem, kc, kf, t102]) ⟨Below.refl _ _, e49.symm, trivial⟩
          refine looseAll_cons (k := 51) rfl (fun a u L hE hev hkn _ _ => ?_) ?_
          · have kc : ∀ c, a.eval (.const c) = c := fun _ => rfl
            have kf : ∀ f, a.eval (.func f) = .func (.func f) #[] #[] := fun _ => rfl
            have t3 : a.eval (.tmp 3) = .pointer (some ⟨k0, 0, none⟩) := hev 3 (by kernel_rfl)
            exact loose_val rfl (v := .pointer (some ⟨k0, 21, none⟩)) (by generalize a.eval = ev at *; simp [go_sem, kc, kf, t3]) ⟨Below.refl _ _, e50.symm, trivial⟩
          refine looseAll_cons (k := 52) rfl (fun a u L hE hev hkn _ _ => ?_) ?_
          · have kc : ∀ c, a.eval (.const c) = c := fun _ => rfl
            have kf : ∀ f, a.eval (.func f) = .func (.func f) #[] #[] := fun _ => rfl
            have C_k0 := (HB_k0 u hE).2.1
            have t104 : a.eval (.tmp 104) = .pointer (some ⟨k0, 21, none⟩) := (hkn 50 (by kernel_rfl) : a.eval (.tmp 104) = cs 50).trans e50
            exact loose_val rfl (v := .bool k.ov) (by generalize a.eval = ev at *; simp [go_sem, kc, kf, t104, C_k0]) ⟨Below.refl _ _, e51.symm, trivial⟩
          refine looseAll_cons (k := 53) rfl (fun a u L hE hev hkn _ _ => ?_) ?_
          · have kc : ∀ c, a.eval (.const c) = c := fun _ => rfl
            have kf : ∀ f, a.eval (.func f) = .func (.func f) #[] #[] := fun _ => rfl
            have t105 : a.eval (.tmp 105) = .bool k.ov := (hkn 51 (by kernel_rfl) : a.eval (.tmp 105) = cs 51).trans e51
            exact loose_val rfl (v := .agg #[.int .i64 2048, .bool k.ov]) (by generalize a.eval = ev at *; simp [go_sem, kc, kf, t105]) ⟨Below.refl _ _, e52.symm, trivial⟩
          refine looseAll_cons (k := 54) rfl (fun a u L hE hev hkn _ _ => ?_) ?_
          · have kc : ∀ c, a.eval (.const c) = c := fun _ => rfl
            have kf : ∀ f, a.eval (.func f) = .func (.func f) #[] #[] := fun _ => rfl
            have t57 : a.eval (.tmp 57) = .agg #[.int .i64 1, .bool k.st] := (hkn 3 (by kernel_rfl) : a.eval (.tmp 57) = cs 3).trans e3
            have t67 : a.eval (.tmp 67) = .agg #[.int .i64 2, .bool false] := (hkn 13 (by kernel_rfl) : a.eval (.tmp 67) = cs 13).trans e13
            have t71 : a.eval (.tmp 71) = .agg #[.int .i64 4, .bool f0] := (hkn 17 (by kernel_rfl) : a.eval (.tmp 71) = cs 17).trans e17
            have t75 : a.eval (.tmp 75) = .agg #[.int .i64 8, .bool f1] := (hkn 21 (by kernel_rfl) : a.eval (.tmp 75) = cs 21).trans e21
            have t80 : a.eval (.tmp 80) = .agg #[.int .i64 16, .bool mi] := (hkn 26 (by kernel_rfl) : a.eval (.tmp 80) = cs 26).trans e26
            have t84 : a.eval (.tmp 84) = .agg #[.int .i64 32, .bool dy] := (hkn 30 (by kernel_rfl) : a.eval (.tmp 84) = cs 30).trans e30
            have t88 : a.eval (.tmp 88) = .agg #[.int .i64 64, .bool v0] := (hkn 34 (by kernel_rfl) : a.eval (.tmp 88) = cs 34).trans e34
            have t92 : a.eval (.tmp 92) = .agg #[.int .i64 128, .bool k.od] := (hkn 38 (by kernel_rfl) : a.eval (.tmp 92) = cs 38).trans e38
            have t96 : a.eval (.tmp 96) = .agg #[.int .i64 256, .bool v1] := (hkn 42 (by kernel_rfl) : a.eval (.tmp 96) = cs 42).trans e42
            have t99 : a.eval (.tmp 99) = .agg #[.int .i64 512, .bool k.sl] := (hkn 45 (by kernel_rfl) : a.eval (.tmp 99) = cs 45).trans e45
            have t103 : a.eval (.tmp 103) = .agg #[.int .i64 1024, .bool k.fa] := (hkn 49 (by kernel_rfl) : a.eval (.tmp 103) = cs 49).trans e49
            have t106 : a.eval (.tmp 106) = .agg #[.int .i64 2048, .bool k.ov] := (hkn 52 (by kernel_rfl) : a.eval (.tmp 106) = cs 52).trans e52
            exact loose_val rfl (v := .slice (some ⟨u.heap.size, 0, none⟩) 12 12) (w' := u.alloc (.cells #[.int .i64 1, .bool k.st, .int .i64 2, .bool false, .int .i64 4, .bool f0, .int .i64 8, .bool f1, .int .i64 16, .bool mi, .int .i64 32, .bool dy, .int .i64 64, .bool v0, .int .i64 128, .bool k.od, .int .i64 256, .bool v1, .int .i64 512, .bool k.sl, .int .i64 1024, .bool k.fa, .int .i64 2048, .bool k.ov] 57)) (by generalize a.eval = ev at *; simp [go_sem, kc, kf, t57, t67, t71, t75, t80, t84, t88, t92, t96, t99, t103, t106]) ⟨below_alloc_on (Below.refl _ _) _, ⟨u.heap.size, rfl, box_new _ _ _⟩, trivial⟩
          refine looseAll_cons (k := 55) rfl (fun a u L hE hev hkn _ _ => ?_) ?_
          · have kc : ∀ c, a.eval (.const c) = c := fun _ => rfl
            have kf : ∀ f, a.eval (.func f) = .func (.func f) #[] #[] := fun _ => rfl
            obtain ⟨s0, t107, BS⟩ : ∃ s0, a.eval (.tmp 107) = .slice (some ⟨s0, 0, none⟩) 12 12 ∧ Box u s0 #[.int .i64 1, .bool k.st, .int .i64 2, .bool false, .int .i64 4, .bool f0, .int .i64 8, .bool f1, .int .i64 16, .bool mi, .int .i64 32, .bool dy, .int .i64 64, .bool v0, .int .i64 128, .bool k.od, .int .i64 256, .bool v1, .int .i64 512, .bool k.sl, .int .i64 1024, .bool k.fa, .int .i64 2048, .bool k.ov] := hkn 53 (by kernel_rfl)
            exact loose_call rfl (by generalize a.eval = ev at *; simp [go_sem, kc, kf, t107]) ((g_summed s0 [(1, k.st), (2, false), (4, f0), (8, f1), (16, mi), (32, dy), (64, v0), (128, k.od), (256, v1), (512, k.sl), (1024, k.fa), (2048, k.ov)] 12 12 rfl (by omega) u BS.1 (fun i hi => by
              match i, hi with
              | 0, _ => exact ⟨BS.2.1 0, BS.2.1 1⟩
              | 1, _ => exact ⟨BS.2.1 2, BS.2.1 3⟩
              | 2, _ => exact ⟨BS.2.1 4, BS.2.1 5⟩
              | 3, _ => exact ⟨BS.2.1 6, BS.2.1 7⟩
              | 4, _ => exact ⟨BS.2.1 8, BS.2.1 9⟩
              | 5, _ => exact ⟨BS.2.1 10, BS.2.1 11⟩
              | 6, _ => exact ⟨BS.2.1 12, BS.2.1 13⟩
              | 7, _ => exact ⟨BS.2.1 14, BS.2.1 15⟩
              | 8, _ => exact ⟨BS.2.1 16, BS.2.1 17⟩
              | 9, _ => exact ⟨BS.2.1 18, BS.2.1 19⟩
              | 10, _ => exact ⟨BS.2.1 20, BS.2.1 21⟩
              | 11, _ => exact ⟨BS.2.1 22, BS.2.1 23⟩
              | (x + 12), h => exact absurd h (by omega))).mono fun e u' h => ⟨_, h.1, h.2, rfl, trivial⟩)
          exact looseAll_nil
        · intro a w3 hE hsz hdf hO hDD _
          obtain ⟨s0, f107, _⟩ : ∃ s0, a.tmps.getD 107 undef = .slice (some ⟨s0, 0, none⟩) 12 12 ∧ Box w3 s0 #[.int .i64 1, .bool k.st, .int .i64 2, .bool false, .int .i64 4, .bool f0, .int .i64 8, .bool f1, .int .i64 16, .bool mi, .int .i64 32, .bool dy, .int .i64 64, .bool v0, .int .i64 128, .bool k.od, .int .i64 256, .bool v1, .int .i64 512, .bool k.sl, .int .i64 1024, .bool k.fa, .int .i64 2048, .bool k.ov] := hDD 53 (by omega)
          have f108 : a.tmps.getD 108 undef = .int .i64 (smV [(1, k.st), (2, false), (4, f0), (8, f1), (16, mi), (32, dy), (64, v0), (128, k.od), (256, v1), (512, k.sl), (1024, k.fa), (2048, k.ov)]) := hDD 54 (by omega)
          obtain ⟨x9, f9⟩ : ∃ x, a.tmps.getD 9 undef = x := ⟨_, rfl⟩
          have hOO : ∀ s, isDst _ s = false → a.tmps.getD s undef = (List.toArray (.agg #[.int .i64 d0, .int .i64 d1, .int .i64 l0, .int .i64 l1, .int .i64 p0, .int .i64 p1, .slice A n c, .int .i64 la] :: .agg #[.int .i64 k.t, .int .i64 k.m, .int .i64 k.r, .int .i64 k.v, .int .i64 k.s, .bool k.dr, .bool k.sh, .bool k.st, .bool k.fa, .int .i64 k.ad, .int .i64 k.ti, .int .i64 k.ba, .int .i64 k.en, .bool k.od, .int .i64 k.ke, .bool k.wr, .int .i64 k.bd, .int .i64 k.ra, .bool k.kn, .int .i64 k.ou, .bool k.sl, .bool k.ov, .bool k.ak] :: .pointer (some ⟨g0, 0, none⟩) :: .pointer (some ⟨k0, 0, none⟩) :: .pointer (some ⟨r0, 0, none⟩) :: .int .i64 0 :: .int .i64 li :: .bool false :: .pointer (some ⟨q, 0, none⟩) :: undef :: u10 :: u11 :: u12 :: u13 :: u14 :: u15 :: u16 :: u17 :: u18 :: u19 :: u20 :: u21 :: u22 :: u23 :: u24 :: u25 :: u26 :: u27 :: u28 :: u29 :: u30 :: u31 :: u32 :: u33 :: u34 :: u35 :: u36 :: u37 :: u38 :: u39 :: u40 :: u41 :: u42 :: u43 :: u44 :: u45 :: u46 :: u47 :: u48 :: u49 :: u50 :: u51 :: u52 :: u53 :: u54 :: u55 :: u56 :: u57 :: u58 :: u59 :: u60 :: u61 :: u62 :: u63 :: u64 :: u65 :: u66 :: u67 :: u68 :: u69 :: u70 :: u71 :: u72 :: u73 :: u74 :: u75 :: u76 :: u77 :: u78 :: u79 :: u80 :: u81 :: u82 :: u83 :: u84 :: u85 :: u86 :: u87 :: u88 :: u89 :: u90 :: u91 :: u92 :: u93 :: u94 :: u95 :: u96 :: u97 :: u98 :: u99 :: u100 :: u101 :: u102 :: u103 :: u104 :: u105 :: u106 :: u107 :: u108 :: u109 :: u110 :: u111 :: u112 :: u113 :: u114 :: u115 :: u116 :: []) : Array Value).getD s undef := fun s h => by rw [Array.getD_eq_getD_getElem?, Array.getD_eq_getD_getElem?, hO s h]
          obtain rfl := act_lit (ys := (List.toArray (.agg #[.int .i64 d0, .int .i64 d1, .int .i64 l0, .int .i64 l1, .int .i64 p0, .int .i64 p1, .slice A n c, .int .i64 la] :: .agg #[.int .i64 k.t, .int .i64 k.m, .int .i64 k.r, .int .i64 k.v, .int .i64 k.s, .bool k.dr, .bool k.sh, .bool k.st, .bool k.fa, .int .i64 k.ad, .int .i64 k.ti, .int .i64 k.ba, .int .i64 k.en, .bool k.od, .int .i64 k.ke, .bool k.wr, .int .i64 k.bd, .int .i64 k.ra, .bool k.kn, .int .i64 k.ou, .bool k.sl, .bool k.ov, .bool k.ak] :: .pointer (some ⟨g0, 0, none⟩) :: .pointer (some ⟨k0, 0, none⟩) :: .pointer (some ⟨r0, 0, none⟩) :: .int .i64 0 :: .int .i64 li :: .bool false :: .pointer (some ⟨q, 0, none⟩) :: x9 :: u10 :: u11 :: u12 :: u13 :: u14 :: u15 :: u16 :: u17 :: u18 :: u19 :: u20 :: u21 :: u22 :: u23 :: u24 :: u25 :: u26 :: u27 :: u28 :: u29 :: u30 :: u31 :: u32 :: u33 :: u34 :: u35 :: u36 :: u37 :: u38 :: u39 :: u40 :: u41 :: u42 :: u43 :: u44 :: u45 :: u46 :: u47 :: u48 :: u49 :: u50 :: u51 :: u52 :: u53 :: .pointer (some ⟨k0, 5, none⟩) :: .pointer (some ⟨k0, 7, none⟩) :: .bool k.st :: .agg #[.int .i64 1, .bool k.st] :: .bool false :: .bool false :: undef :: undef :: undef :: undef :: undef :: undef :: .bool false :: .agg #[.int .i64 2, .bool false] :: .pointer (some ⟨q, 0, none⟩) :: .agg #[.int .i64 D0, .int .i64 D1] :: .bool f0 :: .agg #[.int .i64 4, .bool f0] :: .pointer (some ⟨q, 0, none⟩) :: .agg #[.int .i64 D0, .int .i64 D1] :: .bool f1 :: .agg #[.int .i64 8, .bool f1] :: .pointer (some ⟨q, 2, none⟩) :: .agg #[.int .i64 L0, .int .i64 L1] :: .agg #[.int .i64 k.t, .int .i64 k.m, .int .i64 k.r, .int .i64 k.v, .int .i64 k.s, .bool k.dr, .bool k.sh, .bool k.st, .bool k.fa, .int .i64 k.ad, .int .i64 k.ti, .int .i64 k.ba, .int .i64 k.en, .bool k.od, .int .i64 k.ke, .bool k.wr, .int .i64 k.bd, .int .i64 k.ra, .bool k.kn, .int .i64 k.ou, .bool k.sl, .bool k.ov, .bool k.ak] :: .bool mi :: .agg #[.int .i64 16, .bool mi] :: .pointer (some ⟨q, 2, none⟩) :: .agg #[.int .i64 L0, .int .i64 L1] :: .bool dy :: .agg #[.int .i64 32, .bool dy] :: .pointer (some ⟨q, 4, none⟩) :: .agg #[.int .i64 P0, .int .i64 P1] :: .bool v0 :: .agg #[.int .i64 64, .bool v0] :: .pointer (some ⟨k0, 9, none⟩) :: .pointer (some ⟨k0, 13, none⟩) :: .bool k.od :: .agg #[.int .i64 128, .bool k.od] :: .pointer (some ⟨q, 4, none⟩) :: .agg #[.int .i64 P0, .int .i64 P1] :: .bool v1 :: .agg #[.int .i64 256, .bool v1] :: .pointer (some ⟨k0, 20, none⟩) :: .bool k.sl :: .agg #[.int .i64 512, .bool k.sl] :: .pointer (some ⟨k0, 5, none⟩) :: .pointer (some ⟨k0, 8, none⟩) :: .bool k.fa :: .agg #[.int .i64 1024, .bool k.fa] :: .pointer (some ⟨k0, 21, none⟩) :: .bool k.ov :: .agg #[.int .i64 2048, .bool k.ov] :: .slice (some ⟨s0, 0, none⟩) 12 12 :: .int .i64 (smV [(1, k.st), (2, false), (4, f0), (8, f1), (16, mi), (32, dy), (64, v0), (128, k.od), (256, v1), (512, k.sl), (1024, k.fa), (2048, k.ov)]) :: u109 :: u110 :: u111 :: u112 :: u113 :: u114 :: u115 :: u116 :: []))) hdf hsz (fun s hs => match s, hs with
          | 0, _ => hOO 0 (by kernel_rfl)
          | 1, _ => hOO 1 (by kernel_rfl)
          | 2, _ => hOO 2 (by kernel_rfl)
          | 3, _ => hOO 3 (by kernel_rfl)
          | 4, _ => hOO 4 (by kernel_rfl)
          | 5, _ => hOO 5 (by kernel_rfl)
          | 6, _ => hOO 6 (by kernel_rfl)
          | 7, _ => hOO 7 (by kernel_rfl)
          | 8, _ => hOO 8 (by kernel_rfl)
          | 9, _ => f9
          | 10, _ => hOO 10 (by kernel_rfl)
          | 11, _ => hOO 11 (by kernel_rfl)
          | 12, _ => hOO 12 (by kernel_rfl)
          | 13, _ => hOO 13 (by kernel_rfl)
          | 14, _ => hOO 14 (by kernel_rfl)
          | 15, _ => hOO 15 (by kernel_rfl)
          | 16, _ => hOO 16 (by kernel_rfl)
          | 17, _ => hOO 17 (by kernel_rfl)
          | 18, _ => hOO 18 (by kernel_rfl)
          | 19, _ => hOO 19 (by kernel_rfl)
          | 20, _ => hOO 20 (by kernel_rfl)
          | 21, _ => hOO 21 (by kernel_rfl)
          | 22, _ => hOO 22 (by kernel_rfl)
          | 23, _ => hOO 23 (by kernel_rfl)
          | 24, _ => hOO 24 (by kernel_rfl)
          | 25, _ => hOO 25 (by kernel_rfl)
          | 26, _ => hOO 26 (by kernel_rfl)
          | 27, _ => hOO 27 (by kernel_rfl)
          | 28, _ => hOO 28 (by kernel_rfl)
          | 29, _ => hOO 29 (by kernel_rfl)
          | 30, _ => hOO 30 (by kernel_rfl)
          | 31, _ => hOO 31 (by kernel_rfl)
          | 32, _ => hOO 32 (by kernel_rfl)
          | 33, _ => hOO 33 (by kernel_rfl)
          | 34, _ => hOO 34 (by kernel_rfl)
          | 35, _ => hOO 35 (by kernel_rfl)
          | 36, _ => hOO 36 (by kernel_rfl)
          | 37, _ => hOO 37 (by kernel_rfl)
          | 38, _ => hOO 38 (by kernel_rfl)
          | 39, _ => hOO 39 (by kernel_rfl)
          | 40, _ => hOO 40 (by kernel_rfl)
          | 41, _ => hOO 41 (by kernel_rfl)
          | 42, _ => hOO 42 (by kernel_rfl)
          | 43, _ => hOO 43 (by kernel_rfl)
          | 44, _ => hOO 44 (by kernel_rfl)
          | 45, _ => hOO 45 (by kernel_rfl)
          | 46, _ => hOO 46 (by kernel_rfl)
          | 47, _ => hOO 47 (by kernel_rfl)
          | 48, _ => hOO 48 (by kernel_rfl)
          | 49, _ => hOO 49 (by kernel_rfl)
          | 50, _ => hOO 50 (by kernel_rfl)
          | 51, _ => hOO 51 (by kernel_rfl)
          | 52, _ => hOO 52 (by kernel_rfl)
          | 53, _ => hOO 53 (by kernel_rfl)
          | 54, _ => (hDD 0 (by omega)).trans e0
          | 55, _ => (hDD 1 (by omega)).trans e1
          | 56, _ => (hDD 2 (by omega)).trans e2
          | 57, _ => (hDD 3 (by omega)).trans e3
          | 58, _ => (hDD 4 (by omega)).trans e4
          | 59, _ => (hDD 5 (by omega)).trans e5
          | 60, _ => (hDD 6 (by omega)).trans e6
          | 61, _ => (hDD 7 (by omega)).trans e7
          | 62, _ => (hDD 8 (by omega)).trans e8
          | 63, _ => (hDD 9 (by omega)).trans e9
          | 64, _ => (hDD 10 (by omega)).trans e10
          | 65, _ => (hDD 11 (by omega)).trans e11
          | 66, _ => (hDD 12 (by omega)).trans e12
          | 67, _ => (hDD 13 (by omega)).trans e13
          | 68, _ => (hDD 14 (by omega)).trans e14
          | 69, _ => (hDD 15 (by omega)).trans e15
          | 70, _ => (hDD 16 (by omega)).trans e16
          | 71, _ => (hDD 17 (by omega)).trans e17
          | 72, _ => (hDD 18 (by omega)).trans e18
          | 73, _ => (hDD 19 (by omega)).trans e19
          | 74, _ => (hDD 20 (by omega)).trans e20
          | 75, _ => (hDD 21 (by omega)).trans e21
          | 76, _ => (hDD 22 (by omega)).trans e22
          | 77, _ => (hDD 23 (by omega)).trans e23
          | 78, _ => (hDD 24 (by omega)).trans e24
          | 79, _ => (hDD 25 (by omega)).trans e25
          | 80, _ => (hDD 26 (by omega)).trans e26
          | 81, _ => (hDD 27 (by omega)).trans e27
          | 82, _ => (hDD 28 (by omega)).trans e28
          | 83, _ => (hDD 29 (by omega)).trans e29
          | 84, _ => (hDD 30 (by omega)).trans e30
          | 85, _ => (hDD 31 (by omega)).trans e31
          | 86, _ => (hDD 32 (by omega)).trans e32
          | 87, _ => (hDD 33 (by omega)).trans e33
          | 88, _ => (hDD 34 (by omega)).trans e34
          | 89, _ => (hDD 35 (by omega)).trans e35
          | 90, _ => (hDD 36 (by omega)).trans e36
          | 91, _ => (hDD 37 (by omega)).trans e37
          | 92, _ => (hDD 38 (by omega)).trans e38
          | 93, _ => (hDD 39 (by omega)).trans e39
          | 94, _ => (hDD 40 (by omega)).trans e40
          | 95, _ => (hDD 41 (by omega)).trans e41
          | 96, _ => (hDD 42 (by omega)).trans e42
          | 97, _ => (hDD 43 (by omega)).trans e43
          | 98, _ => (hDD 44 (by omega)).trans e44
          | 99, _ => (hDD 45 (by omega)).trans e45
          | 100, _ => (hDD 46 (by omega)).trans e46
          | 101, _ => (hDD 47 (by omega)).trans e47
          | 102, _ => (hDD 48 (by omega)).trans e48
          | 103, _ => (hDD 49 (by omega)).trans e49
          | 104, _ => (hDD 50 (by omega)).trans e50
          | 105, _ => (hDD 51 (by omega)).trans e51
          | 106, _ => (hDD 52 (by omega)).trans e52
          | 107, _ => f107
          | 108, _ => f108
          | 109, _ => hOO 109 (by kernel_rfl)
          | 110, _ => hOO 110 (by kernel_rfl)
          | 111, _ => hOO 111 (by kernel_rfl)
          | 112, _ => hOO 112 (by kernel_rfl)
          | 113, _ => hOO 113 (by kernel_rfl)
          | 114, _ => hOO 114 (by kernel_rfl)
          | 115, _ => hOO 115 (by kernel_rfl)
          | 116, _ => hOO 116 (by kernel_rfl)
          | (k + 117), h => absurd h (by simp))
          have Y0 : Bx w g0 #[.int .i64 d0, .int .i64 d1, .int .i64 l0, .int .i64 l1, .int .i64 p0, .int .i64 p1, .slice A n c, .int .i64 la] w3 := (show Bx w g0 #[.int .i64 d0, .int .i64 d1, .int .i64 l0, .int .i64 l1, .int .i64 p0, .int .i64 p1, .slice A n c, .int .i64 la] wc.drew from X0.drew).call hE
          have Y1 : Bx w k0 #[.int .i64 k.t, .int .i64 k.m, .int .i64 k.r, .int .i64 k.v, .int .i64 k.s, .bool k.dr, .bool k.sh, .bool k.st, .bool k.fa, .int .i64 k.ad, .int .i64 k.ti, .int .i64 k.ba, .int .i64 k.en, .bool k.od, .int .i64 k.ke, .bool k.wr, .int .i64 k.bd, .int .i64 k.ra, .bool k.kn, .int .i64 k.ou, .bool k.sl, .bool k.ov, .bool k.ak] w3 := X1.drew.call hE
          have Y2 : Bx w r0 #[.int .i64 0, .int .i64 0, .int .i64 0, .int .i64 0, .int .i64 0, .int .i64 0, .slice none 0 0, .int .i64 0] w3 := X2.drew.call hE
          have Y3 : Bx w q #[.int .i64 D0, .int .i64 D1, .int .i64 L0, .int .i64 L1, .int .i64 P0, .int .i64 P1, .slice B m d, .int .i64 0] w3 := X3.drew.call hE
          have hi3 := HI _ hE
          clear hDD hOO hO hE f9 f107 f108 HB_q HB_k0 HI e0 e1 e2 e3 e4 e5 e6 e7 e8 e9 e10 e11 e12 e13 e14 e15 e16 e17 e18 e19 e20 e21 e22 e23 e24 e25 e26 e27 e28 e29 e30 e31 e32 e33 e34 e35 e36 e37 e38 e39 e40 e41 e42 e43 e44 e45 e46 e47 e48 e49 e50 e51 e52
          go_wp2
          go_meet
          exact ⟨by first | rfl | (rw [← HHE.out]; rfl), hi3, Y0, Y1, Y2, Y3⟩
      · skip
        have HB_q : ∀ w', Below wc.drew.heap.size wc.drew w' → Box w' q #[.int .i64 D0, .int .i64 D1, .int .i64 L0, .int .i64 L1, .int .i64 P0, .int .i64 P1, .slice B m d, .int .i64 0] := fun w' h => (X3.drew.box).below h
        have HB_k0 : ∀ w', Below wc.drew.heap.size wc.drew w' → Box w' k0 #[.int .i64 k.t, .int .i64 k.m, .int .i64 k.r, .int .i64 k.v, .int .i64 k.s, .bool k.dr, .bool k.sh, .bool k.st, .bool k.fa, .int .i64 k.ad, .int .i64 k.ti, .int .i64 k.ba, .int .i64 k.en, .bool k.od, .int .i64 k.ke, .bool k.wr, .int .i64 k.bd, .int .i64 k.ra, .bool k.kn, .int .i64 k.ou, .bool k.sl, .bool k.ov, .bool k.ak] := fun w' h => (X1.drew.box).below h
        have HI : ∀ w', Below wc.drew.heap.size wc.drew w' → Ints w' B m ys := fun w' h => (show Ints wc.drew B m ys from hi).below h
        obtain ⟨cs, hcs⟩ : ∃ cs : Nat → Value, (fun i => match i with
          | 0 => .pointer (some ⟨k0, 5, none⟩)
          | 1 => .pointer (some ⟨k0, 7, none⟩)
          | 2 => .bool k.st
          | 3 => .agg #[.int .i64 1, .bool k.st]
          | 4 => .bool true
          | 5 => .bool true
          | 6 => .pointer (some ⟨q, 6, none⟩)
          | 7 => .slice B m d
          | 8 => .pointer (some ⟨k0, 0, none⟩)
          | 9 => .int .i64 k.t
          | 10 => .int .i64 li
          | 11 => .bool ov
          | 12 => .bool ov
          | 13 => .agg #[.int .i64 2, .bool ov]
          | 14 => .pointer (some ⟨q, 0, none⟩)
          | 15 => .agg #[.int .i64 D0, .int .i64 D1]
          | 16 => .bool f0
          | 17 => .agg #[.int .i64 4, .bool f0]
          | 18 => .pointer (some ⟨q, 0, none⟩)
          | 19 => .agg #[.int .i64 D0, .int .i64 D1]
          | 20 => .bool f1
          | 21 => .agg #[.int .i64 8, .bool f1]
          | 22 => .pointer (some ⟨q, 2, none⟩)
          | 23 => .agg #[.int .i64 L0, .int .i64 L1]
          | 24 => .agg #[.int .i64 k.t, .int .i64 k.m, .int .i64 k.r, .int .i64 k.v, .int .i64 k.s, .bool k.dr, .bool k.sh, .bool k.st, .bool k.fa, .int .i64 k.ad, .int .i64 k.ti, .int .i64 k.ba, .int .i64 k.en, .bool k.od, .int .i64 k.ke, .bool k.wr, .int .i64 k.bd, .int .i64 k.ra, .bool k.kn, .int .i64 k.ou, .bool k.sl, .bool k.ov, .bool k.ak]
          | 25 => .bool mi
          | 26 => .agg #[.int .i64 16, .bool mi]
          | 27 => .pointer (some ⟨q, 2, none⟩)
          | 28 => .agg #[.int .i64 L0, .int .i64 L1]
          | 29 => .bool dy
          | 30 => .agg #[.int .i64 32, .bool dy]
          | 31 => .pointer (some ⟨q, 4, none⟩)
          | 32 => .agg #[.int .i64 P0, .int .i64 P1]
          | 33 => .bool v0
          | 34 => .agg #[.int .i64 64, .bool v0]
          | 35 => .pointer (some ⟨k0, 9, none⟩)
          | 36 => .pointer (some ⟨k0, 13, none⟩)
          | 37 => .bool k.od
          | 38 => .agg #[.int .i64 128, .bool k.od]
          | 39 => .pointer (some ⟨q, 4, none⟩)
          | 40 => .agg #[.int .i64 P0, .int .i64 P1]
          | 41 => .bool v1
          | 42 => .agg #[.int .i64 256, .bool v1]
          | 43 => .pointer (some ⟨k0, 20, none⟩)
          | 44 => .bool k.sl
          | 45 => .agg #[.int .i64 512, .bool k.sl]
          | 46 => .pointer (some ⟨k0, 5, none⟩)
          | 47 => .pointer (some ⟨k0, 8, none⟩)
          | 48 => .bool k.fa
          | 49 => .agg #[.int .i64 1024, .bool k.fa]
          | 50 => .pointer (some ⟨k0, 21, none⟩)
          | 51 => .bool k.ov
          | 52 => .agg #[.int .i64 2048, .bool k.ov]
          | _ => undef) = cs := ⟨_, rfl⟩
        have e0 : cs 0 = .pointer (some ⟨k0, 5, none⟩) := by rw [← hcs]; rfl
        have e1 : cs 1 = .pointer (some ⟨k0, 7, none⟩) := by rw [← hcs]; rfl
        have e2 : cs 2 = .bool k.st := by rw [← hcs]; rfl
        have e3 : cs 3 = .agg #[.int .i64 1, .bool k.st] := by rw [← hcs]; rfl
        have e4 : cs 4 = .bool true := by rw [← hcs]; rfl
        have e5 : cs 5 = .bool true := by rw [← hcs]; rfl
        have e6 : cs 6 = .pointer (some ⟨q, 6, none⟩) := by rw [← hcs]; rfl
        have e7 : cs 7 = .slice B m d := by rw [← hcs]; rfl
        have e8 : cs 8 = .pointer (some ⟨k0, 0, none⟩) := by rw [← hcs]; rfl
        have e9 : cs 9 = .int .i64 k.t := by rw [← hcs]; rfl
        have e10 : cs 10 = .int .i64 li := by rw [← hcs]; rfl
        have e11 : cs 11 = .bool ov := by rw [← hcs]; rfl
        have e12 : cs 12 = .bool ov := by rw [← hcs]; rfl
        have e13 : cs 13 = .agg #[.int .i64 2, .bool ov] := by rw [← hcs]; rfl
        have e14 : cs 14 = .pointer (some ⟨q, 0, none⟩) := by rw [← hcs]; rfl
        have e15 : cs 15 = .agg #[.int .i64 D0, .int .i64 D1] := by rw [← hcs]; rfl
        have e16 : cs 16 = .bool f0 := by rw [← hcs]; rfl
        have e17 : cs 17 = .agg #[.int .i64 4, .bool f0] := by rw [← hcs]; rfl
        have e18 : cs 18 = .pointer (some ⟨q, 0, none⟩) := by rw [← hcs]; rfl
        have e19 : cs 19 = .agg #[.int .i64 D0, .int .i64 D1] := by rw [← hcs]; rfl
        have e20 : cs 20 = .bool f1 := by rw [← hcs]; rfl
        have e21 : cs 21 = .agg #[.int .i64 8, .bool f1] := by rw [← hcs]; rfl
        have e22 : cs 22 = .pointer (some ⟨q, 2, none⟩) := by rw [← hcs]; rfl
        have e23 : cs 23 = .agg #[.int .i64 L0, .int .i64 L1] := by rw [← hcs]; rfl
        have e24 : cs 24 = .agg #[.int .i64 k.t, .int .i64 k.m, .int .i64 k.r, .int .i64 k.v, .int .i64 k.s, .bool k.dr, .bool k.sh, .bool k.st, .bool k.fa, .int .i64 k.ad, .int .i64 k.ti, .int .i64 k.ba, .int .i64 k.en, .bool k.od, .int .i64 k.ke, .bool k.wr, .int .i64 k.bd, .int .i64 k.ra, .bool k.kn, .int .i64 k.ou, .bool k.sl, .bool k.ov, .bool k.ak] := by rw [← hcs]; rfl
        have e25 : cs 25 = .bool mi := by rw [← hcs]; rfl
        have e26 : cs 26 = .agg #[.int .i64 16, .bool mi] := by rw [← hcs]; rfl
        have e27 : cs 27 = .pointer (some ⟨q, 2, none⟩) := by rw [← hcs]; rfl
        have e28 : cs 28 = .agg #[.int .i64 L0, .int .i64 L1] := by rw [← hcs]; rfl
        have e29 : cs 29 = .bool dy := by rw [← hcs]; rfl
        have e30 : cs 30 = .agg #[.int .i64 32, .bool dy] := by rw [← hcs]; rfl
        have e31 : cs 31 = .pointer (some ⟨q, 4, none⟩) := by rw [← hcs]; rfl
        have e32 : cs 32 = .agg #[.int .i64 P0, .int .i64 P1] := by rw [← hcs]; rfl
        have e33 : cs 33 = .bool v0 := by rw [← hcs]; rfl
        have e34 : cs 34 = .agg #[.int .i64 64, .bool v0] := by rw [← hcs]; rfl
        have e35 : cs 35 = .pointer (some ⟨k0, 9, none⟩) := by rw [← hcs]; rfl
        have e36 : cs 36 = .pointer (some ⟨k0, 13, none⟩) := by rw [← hcs]; rfl
        have e37 : cs 37 = .bool k.od := by rw [← hcs]; rfl
        have e38 : cs 38 = .agg #[.int .i64 128, .bool k.od] := by rw [← hcs]; rfl
        have e39 : cs 39 = .pointer (some ⟨q, 4, none⟩) := by rw [← hcs]; rfl
        have e40 : cs 40 = .agg #[.int .i64 P0, .int .i64 P1] := by rw [← hcs]; rfl
        have e41 : cs 41 = .bool v1 := by rw [← hcs]; rfl
        have e42 : cs 42 = .agg #[.int .i64 256, .bool v1] := by rw [← hcs]; rfl
        have e43 : cs 43 = .pointer (some ⟨k0, 20, none⟩) := by rw [← hcs]; rfl
        have e44 : cs 44 = .bool k.sl := by rw [← hcs]; rfl
        have e45 : cs 45 = .agg #[.int .i64 512, .bool k.sl] := by rw [← hcs]; rfl
        have e46 : cs 46 = .pointer (some ⟨k0, 5, none⟩) := by rw [← hcs]; rfl
        have e47 : cs 47 = .pointer (some ⟨k0, 8, none⟩) := by rw [← hcs]; rfl
        have e48 : cs 48 = .bool k.fa := by rw [← hcs]; rfl
        have e49 : cs 49 = .agg #[.int .i64 1024, .bool k.fa] := by rw [← hcs]; rfl
        have e50 : cs 50 = .pointer (some ⟨k0, 21, none⟩) := by rw [← hcs]; rfl
        have e51 : cs 51 = .bool k.ov := by rw [← hcs]; rfl
        have e52 : cs 52 = .agg #[.int .i64 2048, .bool k.ov] := by rw [← hcs]; rfl
        clear hcs
        refine wp_region_loose 55 117 (by kernel_rfl) (by kernel_rfl) rfl (fun w w' => Below w.heap.size w w') (fun w => Below.refl _ _) (fun a b c h g => below_call h g)
          (looseD (fun i => if i = 53 then some fun v w' => ∃ s0, v = .slice (some ⟨s0, 0, none⟩) 12 12 ∧ Box w' s0 #[.int .i64 1, .bool k.st, .int .i64 2, .bool ov, .int .i64 4, .bool f0, .int .i64 8, .bool f1, .int .i64 16, .bool mi, .int .i64 32, .bool dy, .int .i64 64, .bool v0, .int .i64 128, .bool k.od, .int .i64 256, .bool v1, .int .i64 512, .bool k.sl, .int .i64 1024, .bool k.fa, .int .i64 2048, .bool k.ov] else if i = 54 then some fun v w' => v = .int .i64 (smV [(1, k.st), (2, ov), (4, f0), (8, f1), (16, mi), (32, dy), (64, v0), (128, k.od), (256, v1), (512, k.sl), (1024, k.fa), (2048, k.ov)]) else none) cs)
          (fun _ _ _ => True) (looseD_stable ?_) (fun _ _ _ _ _ _ _ _ => trivial) trivial ?_ ?_
        · intro i p hp v u u' h hE
          split at hp
          · cases hp; obtain ⟨s0, h1, h2⟩ := h; exact ⟨s0, h1, h2.below hE⟩
          · split at hp
            · cases hp; exact h
            · cases hp
        · simp only [List.take_succ_cons, List.take_zero]
          refine looseAll_cons (k := 1) rfl (fun a u L hE hev hkn _ _ => ?_) ?_
          · have kc : ∀ c, a.eval (.const c) = c := fun _ => rfl
            have kf : ∀ f, a.eval (.func f) = .func (.func f) #[] #[] := fun _ => rfl
            have t3 : a.eval (.tmp 3) = .pointer (some ⟨k0, 0, none⟩) := hev 3 (by kernel_rfl)
            exact loose_val rfl (v := .pointer (some ⟨k0, 5, none⟩)) (by generalize a.eval = ev at *; simp [go_sem, kc, kf, t3]) ⟨Below.refl _ _, e0.symm, trivial⟩
          refine looseAll_cons (k := 2) rfl (fun a u L hE hev hkn _ _ => ?_) ?_
          · have kc : ∀ c, a.eval (.const c) = c := fun _ => rfl
            have kf : ∀ f, a.eval (.func f) = .func (.func f) #[] #[] := fun _ => rfl
            have t54 : a.eval (.tmp 54) = .pointer (some ⟨k0, 5, none⟩) := (hkn 0 (by kernel_rfl) : a.eval (.tmp 54) = cs 0).trans e0
            exact loose_val rfl (v := .pointer (some ⟨k0, 7, none⟩)) (by generalize a.eval = ev at *; simp [go_sem, kc, kf, t54]) ⟨Below.refl _ _, e1.symm, trivial⟩
          refine looseAll_cons (k := 3) rfl (fun a u L hE hev hkn _ _ => ?_) ?_
          · have kc : ∀ c, a.eval (.const c) = c := fun _ => rfl
            have kf : ∀ f, a.eval (.func f) = .func (.func f) #[] #[] := fun _ => rfl
            have C_k0 := (HB_k0 u hE).2.1
            have t55 : a.eval (.tmp 55) = .pointer (some ⟨k0, 7, none⟩) := (hkn 1 (by kernel_rfl) : a.eval (.tmp 55) = cs 1).trans e1
            exact loose_val rfl (v := .bool k.st) (by generalize a.eval = ev at *; simp [go_sem, kc, kf, t55, C_k0]) ⟨Below.refl _ _, e2.symm, trivial⟩
          refine looseAll_cons (k := 4) rfl (fun a u L hE hev hkn _ _ => ?_) ?_
          · have kc : ∀ c, a.eval (.const c) = c := fun _ => rfl
            have kf : ∀ f, a.eval (.func f) = .func (.func f) #[] #[] := fun _ => rfl
            have t56 : a.eval (.tmp 56) = .bool k.st := (hkn 2 (by kernel_rfl) : a.eval (.tmp 56) = cs 2).trans e2
            exact loose_val rfl (v := .agg #[.int .i64 1, .bool k.st]) (by generalize a.eval = ev at *; simp [go_sem, kc, kf, t56]) ⟨Below.refl _ _, e3.symm, trivial⟩
          refine looseAll_cons (k := 5) rfl (fun a u L hE hev hkn _ _ => ?_) ?_
          · have kc : ∀ c, a.eval (.const c) = c := fun _ => rfl
            have kf : ∀ f, a.eval (.func f) = .func (.func f) #[] #[] := fun _ => rfl
            have t7 : a.eval (.tmp 7) = .bool true := hev 7 (by kernel_rfl)
            exact loose_val rfl (v := .bool true) (by generalize a.eval = ev at *; simp [go_sem, kc, kf, t7]) ⟨Below.refl _ _, e4.symm, trivial⟩
          refine looseAll_cons (k := 6) rfl (fun a u L hE hev hkn _ _ => ?_) ?_
          · have kc : ∀ c, a.eval (.const c) = c := fun _ => rfl
            have kf : ∀ f, a.eval (.func f) = .func (.func f) #[] #[] := fun _ => rfl
            have t58 : a.eval (.tmp 58) = .bool true := (hkn 4 (by kernel_rfl) : a.eval (.tmp 58) = cs 4).trans e4
            exact loose_val rfl (v := .bool true) (by generalize a.eval = ev at *; simp [go_sem, kc, kf, t58]) ⟨Below.refl _ _, e5.symm, trivial⟩
          refine looseAll_cons (k := 7) rfl (fun a u L hE hev hkn _ _ => ?_) ?_
          · have kc : ∀ c, a.eval (.const c) = c := fun _ => rfl
            have kf : ∀ f, a.eval (.func f) = .func (.func f) #[] #[] := fun _ => rfl
            have tg : a.eval (.tmp 59) = .bool true := (hkn 5 (by kernel_rfl) : a.eval (.tmp 59) = cs 5).trans e5
            have t8 : a.eval (.tmp 8) = .pointer (some ⟨q, 0, none⟩) := hev 8 (by kernel_rfl)
            exact loose_valg ((loose_guard rfl rfl tg).trans (by decide)) (v := .pointer (some ⟨q, 6, none⟩)) (by generalize a.eval = ev at *; simp [go_sem, kc, kf, t8]) ⟨Below.refl _ _, e6.symm, trivial⟩
          refine looseAll_cons (k := 8) rfl (fun a u L hE hev hkn _ _ => ?_) ?_
          · have kc : ∀ c, a.eval (.const c) = c := fun _ => rfl
            have kf : ∀ f, a.eval (.func f) = .func (.func f) #[] #[] := fun _ => rfl
            have C_q := (HB_q u hE).2.1
            have tg : a.eval (.tmp 59) = .bool true := (hkn 5 (by kernel_rfl) : a.eval (.tmp 59) = cs 5).trans e5
            have t60 : a.eval (.tmp 60) = .pointer (some ⟨q, 6, none⟩) := (hkn 6 (by kernel_rfl) : a.eval (.tmp 60) = cs 6).trans e6
            exact loose_valg ((loose_guard rfl rfl tg).trans (by decide)) (v := .slice B m d) (by generalize a.eval = ev at *; simp [go_sem, kc, kf, t60, C_q]) ⟨Below.refl _ _, e7.symm, trivial⟩
          refine looseAll_cons (k := 9) rfl (fun a u L hE hev hkn _ _ => ?_) ?_
          · have kc : ∀ c, a.eval (.const c) = c := fun _ => rfl
            have kf : ∀ f, a.eval (.func f) = .func (.func f) #[] #[] := fun _ => rfl
            have tg : a.eval (.tmp 59) = .bool true := (hkn 5 (by kernel_rfl) : a.eval (.tmp 59) = cs 5).trans e5
            have t3 : a.eval (.tmp 3) = .pointer (some ⟨k0, 0, none⟩) := hev 3 (by kernel_rfl)
            exact loose_valg ((loose_guard rfl rfl tg).trans (by decide)) (v := .pointer (some ⟨k0, 0, none⟩)) (by generalize a.eval = ev at *; simp [go_sem, kc, kf, t3]) ⟨Below.refl _ _, e8.symm, trivial⟩
          refine looseAll_cons (k := 10) rfl (fun a u L hE hev hkn _ _ => ?_) ?_
          · have kc : ∀ c, a.eval (.const c) = c := fun _ => rfl
            have kf : ∀ f, a.eval (.func f) = .func (.func f) #[] #[] := fun _ => rfl
            have C_k0 := (HB_k0 u hE).2.1
            have tg : a.eval (.tmp 59) = .bool true := (hkn 5 (by kernel_rfl) : a.eval (.tmp 59) = cs 5).trans e5
            have t62 : a.eval (.tmp 62) = .pointer (some ⟨k0, 0, none⟩) := (hkn 8 (by kernel_rfl) : a.eval (.tmp 62) = cs 8).trans e8
            exact loose_valg ((loose_guard rfl rfl tg).trans (by decide)) (v := .int .i64 k.t) (by generalize a.eval = ev at *; simp [go_sem, kc, kf, t62, C_k0]) ⟨Below.refl _ _, e9.symm, trivial⟩
          refine looseAll_cons (k := 11) rfl (fun a u L hE hev hkn _ _ => ?_) ?_
          · have kc : ∀ c, a.eval (.const c) = c := fun _ => rfl
            have kf : ∀ f, a.eval (.func f) = .func (.func f) #[] #[] := fun _ => rfl
            have tg : a.eval (.tmp 59) = .bool true := (hkn 5 (by kernel_rfl) : a.eval (.tmp 59) = cs 5).trans e5
            have t6 : a.eval (.tmp 6) = .int .i64 li := hev 6 (by kernel_rfl)
            exact loose_valg ((loose_guard rfl rfl tg).trans (by decide)) (v := .int .i64 li) (by generalize a.eval = ev at *; simp [go_sem, kc, kf, t6]) ⟨Below.refl _ _, e10.symm, trivial⟩
          refine looseAll_cons (k := 12) rfl (fun a u L hE hev hkn _ _ => ?_) ?_
          · have kc : ∀ c, a.eval (.const c) = c := fun _ => rfl
            have kf : ∀ f, a.eval (.func f) = .func (.func f) #[] #[] := fun _ => rfl
            have tg : a.eval (.tmp 59) = .bool true := (hkn 5 (by kernel_rfl) : a.eval (.tmp 59) = cs 5).trans e5
            have t61 : a.eval (.tmp 61) = .slice B m d := (hkn 7 (by kernel_rfl) : a.eval (.tmp 61) = cs 7).trans e7
            have t63 : a.eval (.tmp 63) = .int .i64 k.t := (hkn 9 (by kernel_rfl) : a.eval (.tmp 63) = cs 9).trans e9
            have t64 : a.eval (.tmp 64) = .int .i64 li := (hkn 10 (by kernel_rfl) : a.eval (.tmp 64) = cs 10).trans e10
            exact loose_callg ((loose_guard rfl rfl tg).trans (by decide)) (by generalize a.eval = ev at *; simp [go_sem, kc, kf, t61, t63, t64]) ((HOV.out u (HI u hE)).mono fun e w' h => ⟨.bool ov, h.1, h.2 ▸ Below.refl _ _, e11.symm, trivial⟩)
          refine looseAll_cons (k := 13) rfl (fun a u L hE hev hkn _ _ => ?_) ?_
          · have kc : ∀ c, a.eval (.const c) = c := fun _ => rfl
            have kf : ∀ f, a.eval (.func f) = .func (.func f) #[] #[] := fun _ => rfl
            have t59 : a.eval (.tmp 59) = .bool true := (hkn 5 (by kernel_rfl) : a.eval (.tmp 59) = cs 5).trans e5
            have t65 : a.eval (.tmp 65) = .bool ov := (hkn 11 (by kernel_rfl) : a.eval (.tmp 65) = cs 11).trans e11
            exact loose_val rfl (v := .bool ov) (by generalize a.eval = ev at *; simp [go_sem, kc, kf, t59, t65]) ⟨Below.refl _ _, e12.symm, trivial⟩
          refine looseAll_cons (k := 14) rfl (fun a u L hE hev hkn _ _ => ?_) ?_
          · have kc : ∀ c, a.eval (.const c) = c := fun _ => rfl
            have kf : ∀ f, a.eval (.func f) = .func (.func f) #[] #[] := fun _ => rfl
            have t66 : a.eval (.tmp 66) = .bool ov := (hkn 12 (by kernel_rfl) : a.eval (.tmp 66) = cs 12).trans e12
            exact loose_val rfl (v := .agg #[.int .i64 2, .bool ov]) (by generalize a.eval = ev at *; simp [go_sem, kc, kf, t66]) ⟨Below.refl _ _, e13.symm, trivial⟩
          refine looseAll_cons (k := 15) rfl (fun a u L hE hev hkn _ _ => ?_) ?_
          · have kc : ∀ c, a.eval (.const c) = c := fun _ => rfl
            have kf : ∀ f, a.eval (.func f) = .func (.func f) #[] #[] := fun _ => rfl
            have t8 : a.eval (.tmp 8) = .pointer (some ⟨q, 0, none⟩) := hev 8 (by kernel_rfl)
            exact loose_val rfl (v := .pointer (some ⟨q, 0, none⟩)) (by generalize a.eval = ev at *; simp [go_sem, kc, kf, t8]) ⟨Below.refl _ _, e14.symm, trivial⟩
          refine looseAll_cons (k := 16) rfl (fun a u L hE hev hkn _ _ => ?_) ?_
          · have kc : ∀ c, a.eval (.const c) = c := fun _ => rfl
            have kf : ∀ f, a.eval (.func f) = .func (.func f) #[] #[] := fun _ => rfl
            have C_q := (HB_q u hE).2.1
            have t68 : a.eval (.tmp 68) = .pointer (some ⟨q, 0, none⟩) := (hkn 14 (by kernel_rfl) : a.eval (.tmp 68) = cs 14).trans e14
            exact loose_val rfl (v := .agg #[.int .i64 D0, .int .i64 D1]) (by generalize a.eval = ev at *; simp [go_sem, kc, kf, t68, C_q]) ⟨Below.refl _ _, e15.symm, trivial⟩
          refine looseAll_cons (k := 17) rfl (fun a u L hE hev hkn _ _ => ?_) ?_
          · have kc : ∀ c, a.eval (.const c) = c := fun _ => rfl
            have kf : ∀ f, a.eval (.func f) = .func (.func f) #[] #[] := fun _ => rfl
            have t69 : a.eval (.tmp 69) = .agg #[.int .i64 D0, .int .i64 D1] := (hkn 15 (by kernel_rfl) : a.eval (.tmp 69) = cs 15).trans e15
            exact loose_call rfl (by generalize a.eval = ev at *; simp [go_sem, kc, kf, t69]) ((HF0.out u).mono fun e w' h => ⟨.bool f0, h.1, h.2, e16.symm, trivial⟩)
          refine looseAll_cons (k := 18) rfl (fun a u L hE hev hkn _ _ => ?_) ?_
          · have kc : ∀ c, a.eval (.const c) = c := fun _ => rfl
            have kf : ∀ f, a.eval (.func f) = .func (.func f) #[] #[] := fun _ => rfl
            have t70 : a.eval (.tmp 70) = .bool f0 := (hkn 16 (by kernel_rfl) : a.eval (.tmp 70) = cs 16).trans e16
            exact loose_val rfl (v := .agg #[.int .i64 4, .bool f0]) (by generalize a.eval = ev at *; simp [go_sem, kc, kf, t70]) ⟨Below.refl _ _, e17.symm, trivial⟩
          refine looseAll_cons (k := 19) rfl (fun a u L hE hev hkn _ _ => ?_) ?_
          · have kc : ∀ c, a.eval (.const c) = c := fun _ => rfl
            have kf : ∀ f, a.eval (.func f) = .func (.func f) #[] #[] := fun _ => rfl
            have t8 : a.eval (.tmp 8) = .pointer (some ⟨q, 0, none⟩) := hev 8 (by kernel_rfl)
            exact loose_val rfl (v := .pointer (some ⟨q, 0, none⟩)) (by generalize a.eval = ev at *; simp [go_sem, kc, kf, t8]) ⟨Below.refl _ _, e18.symm, trivial⟩
          refine looseAll_cons (k := 20) rfl (fun a u L hE hev hkn _ _ => ?_) ?_
          · have kc : ∀ c, a.eval (.const c) = c := fun _ => rfl
            have kf : ∀ f, a.eval (.func f) = .func (.func f) #[] #[] := fun _ => rfl
            have C_q := (HB_q u hE).2.1
            have t72 : a.eval (.tmp 72) = .pointer (some ⟨q, 0, none⟩) := (hkn 18 (by kernel_rfl) : a.eval (.tmp 72) = cs 18).trans e18
            exact loose_val rfl (v := .agg #[.int .i64 D0, .int .i64 D1]) (by generalize a.eval = ev at *; simp [go_sem, kc, kf, t72, C_q]) ⟨Below.refl _ _, e19.symm, trivial⟩
          refine looseAll_cons (k := 21) rfl (fun a u L hE hev hkn _ _ => ?_) ?_
          · have kc : ∀ c, a.eval (.const c) = c := fun _ => rfl
            have kf : ∀ f, a.eval (.func f) = .func (.func f) #[] #[] := fun _ => rfl
            have t73 : a.eval (.tmp 73) = .agg #[.int .i64 D0, .int .i64 D1] := (hkn 19 (by kernel_rfl) : a.eval (.tmp 73) = cs 19).trans e19
            exact loose_call rfl (by generalize a.eval = ev at *; simp [go_sem, kc, kf, t73]) ((HF1.out u).mono fun e w' h => ⟨.bool f1, h.1, h.2, e20.symm, trivial⟩)
          refine looseAll_cons (k := 22) rfl (fun a u L hE hev hkn _ _ => ?_) ?_
          · have kc : ∀ c, a.eval (.const c) = c := fun _ => rfl
            have kf : ∀ f, a.eval (.func f) = .func (.func f) #[] #[] := fun _ => rfl
            have t74 : a.eval (.tmp 74) = .bool f1 := (hkn 20 (by kernel_rfl) : a.eval (.tmp 74) = cs 20).trans e20
            exact loose_val rfl (v := .agg #[.int .i64 8, .bool f1]) (by generalize a.eval = ev at *; simp [go_sem, kc, kf, t74]) ⟨Below.refl _ _, e21.symm, trivial⟩
          refine looseAll_cons (k := 23) rfl (fun a u L hE hev hkn _ _ => ?_) ?_
          · have kc : ∀ c, a.eval (.const c) = c := fun _ => rfl
            have kf : ∀ f, a.eval (.func f) = .func (.func f) #[] #[] := fun _ => rfl
            have t8 : a.eval (.tmp 8) = .pointer (some ⟨q, 0, none⟩) := hev 8 (by kernel_rfl)
            exact loose_val rfl (v := .pointer (some ⟨q, 2, none⟩)) (by generalize a.eval = ev at *; simp [go_sem, kc, kf, t8]) ⟨Below.refl _ _, e22.symm, trivial⟩
          refine looseAll_cons (k := 24) rfl (fun a u L hE hev hkn _ _ => ?_) ?_
          · have kc : ∀ c, a.eval (.const c) = c := fun _ => rfl
            have kf : ∀ f, a.eval (.func f) = .func (.func f) #[] #[] := fun _ => rfl
            have C_q := (HB_q u hE).2.1
            have t76 : a.eval (.tmp 76) = .pointer (some ⟨q, 2, none⟩) := (hkn 22 (by kernel_rfl) : a.eval (.tmp 76) = cs 22).trans e22
            exact loose_val rfl (v := .agg #[.int .i64 L0, .int .i64 L1]) (by generalize a.eval = ev at *; simp [go_sem, kc, kf, t76, C_q]) ⟨Below.refl _ _, e23.symm, trivial⟩
          refine looseAll_cons (k := 25) rfl (fun a u L hE hev hkn _ _ => ?_) ?_
          · have HBX := HB_k0 u hE
            have kc : ∀ c, a.eval (.const c) = c := fun _ => rfl
            have kf : ∀ f, a.eval (.func f) = .func (.func f) #[] #[] := fun _ => rfl
            have t3 : a.eval (.tmp 3) = .pointer (some ⟨k0, 0, none⟩) := hev 3 (by kernel_rfl)
            exact loose_load rfl _ _ rfl k0 t3 #[.int .i64 k.t, .int .i64 k.m, .int .i64 k.r, .int .i64 k.v, .int .i64 k.s, .bool k.dr, .bool k.sh, .bool k.st, .bool k.fa, .int .i64 k.ad, .int .i64 k.ti, .int .i64 k.ba, .int .i64 k.en, .bool k.od, .int .i64 k.ke, .bool k.wr, .int .i64 k.bd, .int .i64 k.ra, .bool k.kn, .int .i64 k.ou, .bool k.sl, .bool k.ov, .bool k.ak] _ HBX Tryz.underlying38 rfl (by kernel_rfl) ⟨Below.refl _ _, e24.symm, trivial⟩
          refine looseAll_cons (k := 26) rfl (fun a u L hE hev hkn _ _ => ?_) ?_
          · have kc : ∀ c, a.eval (.const c) = c := fun _ => rfl
            have kf : ∀ f, a.eval (.func f) = .func (.func f) #[] #[] := fun _ => rfl
            have t77 : a.eval (.tmp 77) = .agg #[.int .i64 L0, .int .i64 L1] := (hkn 23 (by kernel_rfl) : a.eval (.tmp 77) = cs 23).trans e23
            have t78 : a.eval (.tmp 78) = .agg #[.int .i64 k.t, .int .i64 k.m, .int .i64 k.r, .int .i64 k.v, .int .i64 k.s, .bool k.dr, .bool k.sh, .bool k.st, .bool k.fa, .int .i64 k.ad, .int .i64 k.ti, .int .i64 k.ba, .int .i64 k.en, .bool k.od, .int .i64 k.ke, .bool k.wr, .int .i64 k.bd, .int .i64 k.ra, .bool k.kn, .int .i64 k.ou, .bool k.sl, .bool k.ov, .bool k.ak] := (hkn 24 (by kernel_rfl) : a.eval (.tmp 78) = cs 24).trans e24
            exact loose_call rfl (by generalize a.eval = ev at *; simp [go_sem, kc, kf, t77, t78]) ((HMI.out u).mono fun e w' h => ⟨.bool mi, h.1, h.2, e25.symm, trivial⟩)
          refine looseAll_cons (k := 27) rfl (fun a u L hE hev hkn _ _ => ?_) ?_
          · have kc : ∀ c, a.eval (.const c) = c := fun _ => rfl
            have kf : ∀ f, a.eval (.func f) = .func (.func f) #[] #[] := fun _ => rfl
            have t79 : a.eval (.tmp 79) = .bool mi := (hkn 25 (by kernel_rfl) : a.eval (.tmp 79) = cs 25).trans e25
            exact loose_val rfl (v := .agg #[.int .i64 16, .bool mi]) (by generalize a.eval = ev at *; simp [go_sem, kc, kf, t79]) ⟨Below.refl _ _, e26.symm, trivial⟩
          refine looseAll_cons (k := 28) rfl (fun a u L hE hev hkn _ _ => ?_) ?_
          · have kc : ∀ c, a.eval (.const c) = c := fun _ => rfl
            have kf : ∀ f, a.eval (.func f) = .func (.func f) #[] #[] := fun _ => rfl
            have t8 : a.eval (.tmp 8) = .pointer (some ⟨q, 0, none⟩) := hev 8 (by kernel_rfl)
            exact loose_val rfl (v := .pointer (some ⟨q, 2, none⟩)) (by generalize a.eval = ev at *; simp [go_sem, kc, kf, t8]) ⟨Below.refl _ _, e27.symm, trivial⟩
          refine looseAll_cons (k := 29) rfl (fun a u L hE hev hkn _ _ => ?_) ?_
          · have kc : ∀ c, a.eval (.const c) = c := fun _ => rfl
            have kf : ∀ f, a.eval (.func f) = .func (.func f) #[] #[] := fun _ => rfl
            have C_q := (HB_q u hE).2.1
            have t81 : a.eval (.tmp 81) = .pointer (some ⟨q, 2, none⟩) := (hkn 27 (by kernel_rfl) : a.eval (.tmp 81) = cs 27).trans e27
            exact loose_val rfl (v := .agg #[.int .i64 L0, .int .i64 L1]) (by generalize a.eval = ev at *; simp [go_sem, kc, kf, t81, C_q]) ⟨Below.refl _ _, e28.symm, trivial⟩
          refine looseAll_cons (k := 30) rfl (fun a u L hE hev hkn _ _ => ?_) ?_
          · have kc : ∀ c, a.eval (.const c) = c := fun _ => rfl
            have kf : ∀ f, a.eval (.func f) = .func (.func f) #[] #[] := fun _ => rfl
            have t82 : a.eval (.tmp 82) = .agg #[.int .i64 L0, .int .i64 L1] := (hkn 28 (by kernel_rfl) : a.eval (.tmp 82) = cs 28).trans e28
            exact loose_call rfl (by generalize a.eval = ev at *; simp [go_sem, kc, kf, t82]) ((HDY.out u).mono fun e w' h => ⟨.bool dy, h.1, h.2, e29.symm, trivial⟩)
          refine looseAll_cons (k := 31) rfl (fun a u L hE hev hkn _ _ => ?_) ?_
          · have kc : ∀ c, a.eval (.const c) = c := fun _ => rfl
            have kf : ∀ f, a.eval (.func f) = .func (.func f) #[] #[] := fun _ => rfl
            have t83 : a.eval (.tmp 83) = .bool dy := (hkn 29 (by kernel_rfl) : a.eval (.tmp 83) = cs 29).trans e29
            exact loose_val rfl (v := .agg #[.int .i64 32, .bool dy]) (by generalize a.eval = ev at *; simp [go_sem, kc, kf, t83]) ⟨Below.refl _ _, e30.symm, trivial⟩
          refine looseAll_cons (k := 32) rfl (fun a u L hE hev hkn _ _ => ?_) ?_
          · have kc : ∀ c, a.eval (.const c) = c := fun _ => rfl
            have kf : ∀ f, a.eval (.func f) = .func (.func f) #[] #[] := fun _ => rfl
            have t8 : a.eval (.tmp 8) = .pointer (some ⟨q, 0, none⟩) := hev 8 (by kernel_rfl)
            exact loose_val rfl (v := .pointer (some ⟨q, 4, none⟩)) (by generalize a.eval = ev at *; simp [go_sem, kc, kf, t8]) ⟨Below.refl _ _, e31.symm, trivial⟩
          refine looseAll_cons (k := 33) rfl (fun a u L hE hev hkn _ _ => ?_) ?_
          · have kc : ∀ c, a.eval (.const c) = c := fun _ => rfl
            have kf : ∀ f, a.eval (.func f) = .func (.func f) #[] #[] := fun _ => rfl
            have C_q := (HB_q u hE).2.1
            have t85 : a.eval (.tmp 85) = .pointer (some ⟨q, 4, none⟩) := (hkn 31 (by kernel_rfl) : a.eval (.tmp 85) = cs 31).trans e31
            exact loose_val rfl (v := .agg #[.int .i64 P0, .int .i64 P1]) (by generalize a.eval = ev at *; simp [go_sem, kc, kf, t85, C_q]) ⟨Below.refl _ _, e32.symm, trivial⟩
          refine looseAll_cons (k := 34) rfl (fun a u L hE hev hkn _ _ => ?_) ?_
          · have kc : ∀ c, a.eval (.const c) = c := fun _ => rfl
            have kf : ∀ f, a.eval (.func f) = .func (.func f) #[] #[] := fun _ => rfl
            have t86 : a.eval (.tmp 86) = .agg #[.int .i64 P0, .int .i64 P1] := (hkn 32 (by kernel_rfl) : a.eval (.tmp 86) = cs 32).trans e32
            exact loose_call rfl (by generalize a.eval = ev at *; simp [go_sem, kc, kf, t86]) ((HT0.out u).mono fun e w' h => ⟨.bool v0, h.1, h.2, e33.symm, trivial⟩)
          refine looseAll_cons (k := 35) rfl (fun a u L hE hev hkn _ _ => ?_) ?_
          · have kc : ∀ c, a.eval (.const c) = c := fun _ => rfl
            have kf : ∀ f, a.eval (.func f) = .func (.func f) #[] #[] := fun _ => rfl
            have t87 : a.eval (.tmp 87) = .bool v0 := (hkn 33 (by kernel_rfl) : a.eval (.tmp 87) = cs 33).trans e33
            exact loose_val rfl (v := .agg #[.int .i64 64, .bool v0]) (by generalize a.eval = ev at *; simp [go_sem, kc, kf, t87]) ⟨Below.refl _ _, e34.symm, trivial⟩
          refine looseAll_cons (k := 36) rfl (fun a u L hE hev hkn _ _ => ?_) ?_
          · have kc : ∀ c, a.eval (.const c) = c := fun _ => rfl
            have kf : ∀ f, a.eval (.func f) = .func (.func f) #[] #[] := fun _ => rfl
            have t3 : a.eval (.tmp 3) = .pointer (some ⟨k0, 0, none⟩) := hev 3 (by kernel_rfl)
            exact loose_val rfl (v := .pointer (some ⟨k0, 9, none⟩)) (by generalize a.eval = ev at *; simp [go_sem, kc, kf, t3]) ⟨Below.refl _ _, e35.symm, trivial⟩
          refine looseAll_cons (k := 37) rfl (fun a u L hE hev hkn _ _ => ?_) ?_
          · have kc : ∀ c, a.eval (.const c) = c := fun _ => rfl
            have kf : ∀ f, a.eval (.func f) = .func (.func f) #[] #[] := fun _ => rfl
            have t89 : a.eval (.tmp 89) = .pointer (some ⟨k0, 9, none⟩) := (hkn 35 (by kernel_rfl) : a.eval (.tmp 89) = cs 35).trans e35
            exact loose_val rfl (v := .pointer (some ⟨k0, 13, none⟩)) (by generalize a.eval = ev at *; simp [go_sem, kc, kf, t89]) ⟨Below.refl _ _, e36.symm, trivial⟩
          refine looseAll_cons (k := 38) rfl (fun a u L hE hev hkn _ _ => ?_) ?_
          · have kc : ∀ c, a.eval (.const c) = c := fun _ => rfl
            have kf : ∀ f, a.eval (.func f) = .func (.func f) #[] #[] := fun _ => rfl
            have C_k0 := (HB_k0 u hE).2.1
            have t90 : a.eval (.tmp 90) = .pointer (some ⟨k0, 13, none⟩) := (hkn 36 (by kernel_rfl) : a.eval (.tmp 90) = cs 36).trans e36
            exact loose_val rfl (v := .bool k.od) (by generalize a.eval = ev at *; simp [go_sem, kc, kf, t90, C_k0]) ⟨Below.refl _ _, e37.symm, trivial⟩
          refine looseAll_cons (k := 39) rfl (fun a u L hE hev hkn _ _ => ?_) ?_
          · have kc : ∀ c, a.eval (.const c) = c := fun _ => rfl
            have kf : ∀ f, a.eval (.func f) = .func (.func f) #[] #[] := fun _ => rfl
            have t91 : a.eval (.tmp 91) = .bool k.od := (hkn 37 (by kernel_rfl) : a.eval (.tmp 91) = cs 37).trans e37
            exact loose_val rfl (v := .agg #[.int .i64 128, .bool k.od]) (by generalize a.eval = ev at *; simp [go_sem, kc, kf, t91]) ⟨Below.refl _ _, e38.symm, trivial⟩
          refine looseAll_cons (k := 40) rfl (fun a u L hE hev hkn _ _ => ?_) ?_
          · have kc : ∀ c, a.eval (.const c) = c := fun _ => rfl
            have kf : ∀ f, a.eval (.func f) = .func (.func f) #[] #[] := fun _ => rfl
            have t8 : a.eval (.tmp 8) = .pointer (some ⟨q, 0, none⟩) := hev 8 (by kernel_rfl)
            exact loose_val rfl (v := .pointer (some ⟨q, 4, none⟩)) (by generalize a.eval = ev at *; simp [go_sem, kc, kf, t8]) ⟨Below.refl _ _, e39.symm, trivial⟩
          refine looseAll_cons (k := 41) rfl (fun a u L hE hev hkn _ _ => ?_) ?_
          · have kc : ∀ c, a.eval (.const c) = c := fun _ => rfl
            have kf : ∀ f, a.eval (.func f) = .func (.func f) #[] #[] := fun _ => rfl
            have C_q := (HB_q u hE).2.1
            have t93 : a.eval (.tmp 93) = .pointer (some ⟨q, 4, none⟩) := (hkn 39 (by kernel_rfl) : a.eval (.tmp 93) = cs 39).trans e39
            exact loose_val rfl (v := .agg #[.int .i64 P0, .int .i64 P1]) (by generalize a.eval = ev at *; simp [go_sem, kc, kf, t93, C_q]) ⟨Below.refl _ _, e40.symm, trivial⟩
          refine looseAll_cons (k := 42) rfl (fun a u L hE hev hkn _ _ => ?_) ?_
          · have kc : ∀ c, a.eval (.const c) = c := fun _ => rfl
            have kf : ∀ f, a.eval (.func f) = .func (.func f) #[] #[] := fun _ => rfl
            have t94 : a.eval (.tmp 94) = .agg #[.int .i64 P0, .int .i64 P1] := (hkn 40 (by kernel_rfl) : a.eval (.tmp 94) = cs 40).trans e40
            exact loose_call rfl (by generalize a.eval = ev at *; simp [go_sem, kc, kf, t94]) ((HT1.out u).mono fun e w' h => ⟨.bool v1, h.1, h.2, e41.symm, trivial⟩)
          refine looseAll_cons (k := 43) rfl (fun a u L hE hev hkn _ _ => ?_) ?_
          · have kc : ∀ c, a.eval (.const c) = c := fun _ => rfl
            have kf : ∀ f, a.eval (.func f) = .func (.func f) #[] #[] := fun _ => rfl
            have t95 : a.eval (.tmp 95) = .bool v1 := (hkn 41 (by kernel_rfl) : a.eval (.tmp 95) = cs 41).trans e41
            exact loose_val rfl (v := .agg #[.int .i64 256, .bool v1]) (by generalize a.eval = ev at *; simp [go_sem, kc, kf, t95]) ⟨Below.refl _ _, e42.symm, trivial⟩
          refine looseAll_cons (k := 44) rfl (fun a u L hE hev hkn _ _ => ?_) ?_
          · have kc : ∀ c, a.eval (.const c) = c := fun _ => rfl
            have kf : ∀ f, a.eval (.func f) = .func (.func f) #[] #[] := fun _ => rfl
            have t3 : a.eval (.tmp 3) = .pointer (some ⟨k0, 0, none⟩) := hev 3 (by kernel_rfl)
            exact loose_val rfl (v := .pointer (some ⟨k0, 20, none⟩)) (by generalize a.eval = ev at *; simp [go_sem, kc, kf, t3]) ⟨Below.refl _ _, e43.symm, trivial⟩
          refine looseAll_cons (k := 45) rfl (fun a u L hE hev hkn _ _ => ?_) ?_
          · have kc : ∀ c, a.eval (.const c) = c := fun _ => rfl
            have kf : ∀ f, a.eval (.func f) = .func (.func f) #[] #[] := fun _ => rfl
            have C_k0 := (HB_k0 u hE).2.1
            have t97 : a.eval (.tmp 97) = .pointer (some ⟨k0, 20, none⟩) := (hkn 43 (by kernel_rfl) : a.eval (.tmp 97) = cs 43).trans e43
            exact loose_val rfl (v := .bool k.sl) (by generalize a.eval = ev at *; simp [go_sem, kc, kf, t97, C_k0]) ⟨Below.refl _ _, e44.symm, trivial⟩
          refine looseAll_cons (k := 46) rfl (fun a u L hE hev hkn _ _ => ?_) ?_
          · have kc : ∀ c, a.eval (.const c) = c := fun _ => rfl
            have kf : ∀ f, a.eval (.func f) = .func (.func f) #[] #[] := fun _ => rfl
            have t98 : a.eval (.tmp 98) = .bool k.sl := (hkn 44 (by kernel_rfl) : a.eval (.tmp 98) = cs 44).trans e44
            exact loose_val rfl (v := .agg #[.int .i64 512, .bool k.sl]) (by generalize a.eval = ev at *; simp [go_sem, kc, kf, t98]) ⟨Below.refl _ _, e45.symm, trivial⟩
          refine looseAll_cons (k := 47) rfl (fun a u L hE hev hkn _ _ => ?_) ?_
          · have kc : ∀ c, a.eval (.const c) = c := fun _ => rfl
            have kf : ∀ f, a.eval (.func f) = .func (.func f) #[] #[] := fun _ => rfl
            have t3 : a.eval (.tmp 3) = .pointer (some ⟨k0, 0, none⟩) := hev 3 (by kernel_rfl)
            exact loose_val rfl (v := .pointer (some ⟨k0, 5, none⟩)) (by generalize a.eval = ev at *; simp [go_sem, kc, kf, t3]) ⟨Below.refl _ _, e46.symm, trivial⟩
          refine looseAll_cons (k := 48) rfl (fun a u L hE hev hkn _ _ => ?_) ?_
          · have kc : ∀ c, a.eval (.const c) = c := fun _ => rfl
            have kf : ∀ f, a.eval (.func f) = .func (.func f) #[] #[] := fun _ => rfl
            have t100 : a.eval (.tmp 100) = .pointer (some ⟨k0, 5, none⟩) := (hkn 46 (by kernel_rfl) : a.eval (.tmp 100) = cs 46).trans e46
            exact loose_val rfl (v := .pointer (some ⟨k0, 8, none⟩)) (by generalize a.eval = ev at *; simp [go_sem, kc, kf, t100]) ⟨Below.refl _ _, e47.symm, trivial⟩
          refine looseAll_cons (k := 49) rfl (fun a u L hE hev hkn _ _ => ?_) ?_
          · have kc : ∀ c, a.eval (.const c) = c := fun _ => rfl
            have kf : ∀ f, a.eval (.func f) = .func (.func f) #[] #[] := fun _ => rfl
            have C_k0 := (HB_k0 u hE).2.1
            have t101 : a.eval (.tmp 101) = .pointer (some ⟨k0, 8, none⟩) := (hkn 47 (by kernel_rfl) : a.eval (.tmp 101) = cs 47).trans e47
            exact loose_val rfl (v := .bool k.fa) (by generalize a.eval = ev at *; simp [go_sem, kc, kf, t101, C_k0]) ⟨Below.refl _ _, e48.symm, trivial⟩
          refine looseAll_cons (k := 50) rfl (fun a u L hE hev hkn _ _ => ?_) ?_
          · have kc : ∀ c, a.eval (.const c) = c := fun _ => rfl
            have kf : ∀ f, a.eval (.func f) = .func (.func f) #[] #[] := fun _ => rfl
            have t102 : a.eval (.tmp 102) = .bool k.fa := (hkn 48 (by kernel_rfl) : a.eval (.tmp 102) = cs 48).trans e48
            exact loose_val rfl (v := .agg #[.int .i64 1024, .bool k.fa]) (by generalize a.eval = ev at *; simp [go_sem, kc, kf, t102]) ⟨Below.refl _ _, e49.symm, trivial⟩
          refine looseAll_cons (k := 51) rfl (fun a u L hE hev hkn _ _ => ?_) ?_
          · have kc : ∀ c, a.eval (.const c) = c := fun _ => rfl
            have kf : ∀ f, a.eval (.func f) = .func (.func f) #[] #[] := fun _ => rfl
            have t3 : a.eval (.tmp 3) = .pointer (some ⟨k0, 0, none⟩) := hev 3 (by kernel_rfl)
            exact loose_val rfl (v := .pointer (some ⟨k0, 21, none⟩)) (by generalize a.eval = ev at *; simp [go_sem, kc, kf, t3]) ⟨Below.refl _ _, e50.symm, trivial⟩
          refine looseAll_cons (k := 52) rfl (fun a u L hE hev hkn _ _ => ?_) ?_
          · have kc : ∀ c, a.eval (.const c) = c := fun _ => rfl
            have kf : ∀ f, a.eval (.func f) = .func (.func f) #[] #[] := fun _ => rfl
            have C_k0 := (HB_k0 u hE).2.1
            have t104 : a.eval (.tmp 104) = .pointer (some ⟨k0, 21, none⟩) := (hkn 50 (by kernel_rfl) : a.eval (.tmp 104) = cs 50).trans e50
            exact loose_val rfl (v := .bool k.ov) (by generalize a.eval = ev at *; simp [go_sem, kc, kf, t104, C_k0]) ⟨Below.refl _ _, e51.symm, trivial⟩
          refine looseAll_cons (k := 53) rfl (fun a u L hE hev hkn _ _ => ?_) ?_
          · have kc : ∀ c, a.eval (.const c) = c := fun _ => rfl
            have kf : ∀ f, a.eval (.func f) = .func (.func f) #[] #[] := fun _ => rfl
            have t105 : a.eval (.tmp 105) = .bool k.ov := (hkn 51 (by kernel_rfl) : a.eval (.tmp 105) = cs 51).trans e51
            exact loose_val rfl (v := .agg #[.int .i64 2048, .bool k.ov]) (by generalize a.eval = ev at *; simp [go_sem, kc, kf, t105]) ⟨Below.refl _ _, e52.symm, trivial⟩
          refine looseAll_cons (k := 54) rfl (fun a u L hE hev hkn _ _ => ?_) ?_
          · have kc : ∀ c, a.eval (.const c) = c := fun _ => rfl
            have kf : ∀ f, a.eval (.func f) = .func (.func f) #[] #[] := fun _ => rfl
            have t57 : a.eval (.tmp 57) = .agg #[.int .i64 1, .bool k.st] := (hkn 3 (by kernel_rfl) : a.eval (.tmp 57) = cs 3).trans e3
            have t67 : a.eval (.tmp 67) = .agg #[.int .i64 2, .bool ov] := (hkn 13 (by kernel_rfl) : a.eval (.tmp 67) = cs 13).trans e13
            have t71 : a.eval (.tmp 71) = .agg #[.int .i64 4, .bool f0] := (hkn 17 (by kernel_rfl) : a.eval (.tmp 71) = cs 17).trans e17
            have t75 : a.eval (.tmp 75) = .agg #[.int .i64 8, .bool f1] := (hkn 21 (by kernel_rfl) : a.eval (.tmp 75) = cs 21).trans e21
            have t80 : a.eval (.tmp 80) = .agg #[.int .i64 16, .bool mi] := (hkn 26 (by kernel_rfl) : a.eval (.tmp 80) = cs 26).trans e26
            have t84 : a.eval (.tmp 84) = .agg #[.int .i64 32, .bool dy] := (hkn 30 (by kernel_rfl) : a.eval (.tmp 84) = cs 30).trans e30
            have t88 : a.eval (.tmp 88) = .agg #[.int .i64 64, .bool v0] := (hkn 34 (by kernel_rfl) : a.eval (.tmp 88) = cs 34).trans e34
            have t92 : a.eval (.tmp 92) = .agg #[.int .i64 128, .bool k.od] := (hkn 38 (by kernel_rfl) : a.eval (.tmp 92) = cs 38).trans e38
            have t96 : a.eval (.tmp 96) = .agg #[.int .i64 256, .bool v1] := (hkn 42 (by kernel_rfl) : a.eval (.tmp 96) = cs 42).trans e42
            have t99 : a.eval (.tmp 99) = .agg #[.int .i64 512, .bool k.sl] := (hkn 45 (by kernel_rfl) : a.eval (.tmp 99) = cs 45).trans e45
            have t103 : a.eval (.tmp 103) = .agg #[.int .i64 1024, .bool k.fa] := (hkn 49 (by kernel_rfl) : a.eval (.tmp 103) = cs 49).trans e49
            have t106 : a.eval (.tmp 106) = .agg #[.int .i64 2048, .bool k.ov] := (hkn 52 (by kernel_rfl) : a.eval (.tmp 106) = cs 52).trans e52
            exact loose_val rfl (v := .slice (some ⟨u.heap.size, 0, none⟩) 12 12) (w' := u.alloc (.cells #[.int .i64 1, .bool k.st, .int .i64 2, .bool ov, .int .i64 4, .bool f0, .int .i64 8, .bool f1, .int .i64 16, .bool mi, .int .i64 32, .bool dy, .int .i64 64, .bool v0, .int .i64 128, .bool k.od, .int .i64 256, .bool v1, .int .i64 512, .bool k.sl, .int .i64 1024, .bool k.fa, .int .i64 2048, .bool k.ov] 57)) (by generalize a.eval = ev at *; simp [go_sem, kc, kf, t57, t67, t71, t75, t80, t84, t88, t92, t96, t99, t103, t106]) ⟨below_alloc_on (Below.refl _ _) _, ⟨u.heap.size, rfl, box_new _ _ _⟩, trivial⟩
          refine looseAll_cons (k := 55) rfl (fun a u L hE hev hkn _ _ => ?_) ?_
          · have kc : ∀ c, a.eval (.const c) = c := fun _ => rfl
            have kf : ∀ f, a.eval (.func f) = .func (.func f) #[] #[] := fun _ => rfl
            obtain ⟨s0, t107, BS⟩ : ∃ s0, a.eval (.tmp 107) = .slice (some ⟨s0, 0, none⟩) 12 12 ∧ Box u s0 #[.int .i64 1, .bool k.st, .int .i64 2, .bool ov, .int .i64 4, .bool f0, .int .i64 8, .bool f1, .int .i64 16, .bool mi, .int .i64 32, .bool dy, .int .i64 64, .bool v0, .int .i64 128, .bool k.od, .int .i64 256, .bool v1, .int .i64 512, .bool k.sl, .int .i64 1024, .bool k.fa, .int .i64 2048, .bool k.ov] := hkn 53 (by kernel_rfl)
            exact loose_call rfl (by generalize a.eval = ev at *; simp [go_sem, kc, kf, t107]) ((g_summed s0 [(1, k.st), (2, ov), (4, f0), (8, f1), (16, mi), (32, dy), (64, v0), (128, k.od), (256, v1), (512, k.sl), (1024, k.fa), (2048, k.ov)] 12 12 rfl (by omega) u BS.1 (fun i hi => by
              match i, hi with
              | 0, _ => exact ⟨BS.2.1 0, BS.2.1 1⟩
              | 1, _ => exact ⟨BS.2.1 2, BS.2.1 3⟩
              | 2, _ => exact ⟨BS.2.1 4, BS.2.1 5⟩
              | 3, _ => exact ⟨BS.2.1 6, BS.2.1 7⟩
              | 4, _ => exact ⟨BS.2.1 8, BS.2.1 9⟩
              | 5, _ => exact ⟨BS.2.1 10, BS.2.1 11⟩
              | 6, _ => exact ⟨BS.2.1 12, BS.2.1 13⟩
              | 7, _ => exact ⟨BS.2.1 14, BS.2.1 15⟩
              | 8, _ => exact ⟨BS.2.1 16, BS.2.1 17⟩
              | 9, _ => exact ⟨BS.2.1 18, BS.2.1 19⟩
              | 10, _ => exact ⟨BS.2.1 20, BS.2.1 21⟩
              | 11, _ => exact ⟨BS.2.1 22, BS.2.1 23⟩
              | (x + 12), h => exact absurd h (by omega))).mono fun e u' h => ⟨_, h.1, h.2, rfl, trivial⟩)
          exact looseAll_nil
        · intro a w3 hE hsz hdf hO hDD _
          obtain ⟨s0, f107, _⟩ : ∃ s0, a.tmps.getD 107 undef = .slice (some ⟨s0, 0, none⟩) 12 12 ∧ Box w3 s0 #[.int .i64 1, .bool k.st, .int .i64 2, .bool ov, .int .i64 4, .bool f0, .int .i64 8, .bool f1, .int .i64 16, .bool mi, .int .i64 32, .bool dy, .int .i64 64, .bool v0, .int .i64 128, .bool k.od, .int .i64 256, .bool v1, .int .i64 512, .bool k.sl, .int .i64 1024, .bool k.fa, .int .i64 2048, .bool k.ov] := hDD 53 (by omega)
          have f108 : a.tmps.getD 108 undef = .int .i64 (smV [(1, k.st), (2, ov), (4, f0), (8, f1), (16, mi), (32, dy), (64, v0), (128, k.od), (256, v1), (512, k.sl), (1024, k.fa), (2048, k.ov)]) := hDD 54 (by omega)
          obtain ⟨x9, f9⟩ : ∃ x, a.tmps.getD 9 undef = x := ⟨_, rfl⟩
          have hOO : ∀ s, isDst _ s = false → a.tmps.getD s undef = (List.toArray (.agg #[.int .i64 d0, .int .i64 d1, .int .i64 l0, .int .i64 l1, .int .i64 p0, .int .i64 p1, .slice A n c, .int .i64 la] :: .agg #[.int .i64 k.t, .int .i64 k.m, .int .i64 k.r, .int .i64 k.v, .int .i64 k.s, .bool k.dr, .bool k.sh, .bool k.st, .bool k.fa, .int .i64 k.ad, .int .i64 k.ti, .int .i64 k.ba, .int .i64 k.en, .bool k.od, .int .i64 k.ke, .bool k.wr, .int .i64 k.bd, .int .i64 k.ra, .bool k.kn, .int .i64 k.ou, .bool k.sl, .bool k.ov, .bool k.ak] :: .pointer (some ⟨g0, 0, none⟩) :: .pointer (some ⟨k0, 0, none⟩) :: .pointer (some ⟨r0, 0, none⟩) :: .int .i64 0 :: .int .i64 li :: .bool true :: .pointer (some ⟨q, 0, none⟩) :: undef :: u10 :: u11 :: u12 :: u13 :: u14 :: u15 :: u16 :: u17 :: u18 :: u19 :: u20 :: u21 :: u22 :: u23 :: u24 :: u25 :: u26 :: u27 :: u28 :: u29 :: u30 :: u31 :: u32 :: u33 :: u34 :: u35 :: u36 :: u37 :: u38 :: u39 :: u40 :: u41 :: u42 :: u43 :: u44 :: u45 :: u46 :: u47 :: u48 :: u49 :: u50 :: u51 :: u52 :: u53 :: u54 :: u55 :: u56 :: u57 :: u58 :: u59 :: u60 :: u61 :: u62 :: u63 :: u64 :: u65 :: u66 :: u67 :: u68 :: u69 :: u70 :: u71 :: u72 :: u73 :: u74 :: u75 :: u76 :: u77 :: u78 :: u79 :: u80 :: u81 :: u82 :: u83 :: u84 :: u85 :: u86 :: u87 :: u88 :: u89 :: u90 :: u91 :: u92 :: u93 :: u94 :: u95 :: u96 :: u97 :: u98 :: u99 :: u100 :: u101 :: u102 :: u103 :: u104 :: u105 :: u106 :: u107 :: u108 :: u109 :: u110 :: u111 :: u112 :: u113 :: u114 :: u115 :: u116 :: []) : Array Value).getD s undef := fun s h => by rw [Array.getD_eq_getD_getElem?, Array.getD_eq_getD_getElem?, hO s h]
          obtain rfl := act_lit (ys := (List.toArray (.agg #[.int .i64 d0, .int .i64 d1, .int .i64 l0, .int .i64 l1, .int .i64 p0, .int .i64 p1, .slice A n c, .int .i64 la] :: .agg #[.int .i64 k.t, .int .i64 k.m, .int .i64 k.r, .int .i64 k.v, .int .i64 k.s, .bool k.dr, .bool k.sh, .bool k.st, .bool k.fa, .int .i64 k.ad, .int .i64 k.ti, .int .i64 k.ba, .int .i64 k.en, .bool k.od, .int .i64 k.ke, .bool k.wr, .int .i64 k.bd, .int .i64 k.ra, .bool k.kn, .int .i64 k.ou, .bool k.sl, .bool k.ov, .bool k.ak] :: .pointer (some ⟨g0, 0, none⟩) :: .pointer (some ⟨k0, 0, none⟩) :: .pointer (some ⟨r0, 0, none⟩) :: .int .i64 0 :: .int .i64 li :: .bool true :: .pointer (some ⟨q, 0, none⟩) :: x9 :: u10 :: u11 :: u12 :: u13 :: u14 :: u15 :: u16 :: u17 :: u18 :: u19 :: u20 :: u21 :: u22 :: u23 :: u24 :: u25 :: u26 :: u27 :: u28 :: u29 :: u30 :: u31 :: u32 :: u33 :: u34 :: u35 :: u36 :: u37 :: u38 :: u39 :: u40 :: u41 :: u42 :: u43 :: u44 :: u45 :: u46 :: u47 :: u48 :: u49 :: u50 :: u51 :: u52 :: u53 :: .pointer (some ⟨k0, 5, none⟩) :: .pointer (some ⟨k0, 7, none⟩) :: .bool k.st :: .agg #[.int .i64 1, .bool k.st] :: .bool true :: .bool true :: .pointer (some ⟨q, 6, none⟩) :: .slice B m d :: .pointer (some ⟨k0, 0, none⟩) :: .int .i64 k.t :: .int .i64 li :: .bool ov :: .bool ov :: .agg #[.int .i64 2, .bool ov] :: .pointer (some ⟨q, 0, none⟩) :: .agg #[.int .i64 D0, .int .i64 D1] :: .bool f0 :: .agg #[.int .i64 4, .bool f0] :: .pointer (some ⟨q, 0, none⟩) :: .agg #[.int .i64 D0, .int .i64 D1] :: .bool f1 :: .agg #[.int .i64 8, .bool f1] :: .pointer (some ⟨q, 2, none⟩) :: .agg #[.int .i64 L0, .int .i64 L1] :: .agg #[.int .i64 k.t, .int .i64 k.m, .int .i64 k.r, .int .i64 k.v, .int .i64 k.s, .bool k.dr, .bool k.sh, .bool k.st, .bool k.fa, .int .i64 k.ad, .int .i64 k.ti, .int .i64 k.ba, .int .i64 k.en, .bool k.od, .int .i64 k.ke, .bool k.wr, .int .i64 k.bd, .int .i64 k.ra, .bool k.kn, .int .i64 k.ou, .bool k.sl, .bool k.ov, .bool k.ak] :: .bool mi :: .agg #[.int .i64 16, .bool mi] :: .pointer (some ⟨q, 2, none⟩) :: .agg #[.int .i64 L0, .int .i64 L1] :: .bool dy :: .agg #[.int .i64 32, .bool dy] :: .pointer (some ⟨q, 4, none⟩) :: .agg #[.int .i64 P0, .int .i64 P1] :: .bool v0 :: .agg #[.int .i64 64, .bool v0] :: .pointer (some ⟨k0, 9, none⟩) :: .pointer (some ⟨k0, 13, none⟩) :: .bool k.od :: .agg #[.int .i64 128, .bool k.od] :: .pointer (some ⟨q, 4, none⟩) :: .agg #[.int .i64 P0, .int .i64 P1] :: .bool v1 :: .agg #[.int .i64 256, .bool v1] :: .pointer (some ⟨k0, 20, none⟩) :: .bool k.sl :: .agg #[.int .i64 512, .bool k.sl] :: .pointer (some ⟨k0, 5, none⟩) :: .pointer (some ⟨k0, 8, none⟩) :: .bool k.fa :: .agg #[.int .i64 1024, .bool k.fa] :: .pointer (some ⟨k0, 21, none⟩) :: .bool k.ov :: .agg #[.int .i64 2048, .bool k.ov] :: .slice (some ⟨s0, 0, none⟩) 12 12 :: .int .i64 (smV [(1, k.st), (2, ov), (4, f0), (8, f1), (16, mi), (32, dy), (64, v0), (128, k.od), (256, v1), (512, k.sl), (1024, k.fa), (2048, k.ov)]) :: u109 :: u110 :: u111 :: u112 :: u113 :: u114 :: u115 :: u116 :: []))) hdf hsz (fun s hs => match s, hs with
          | 0, _ => hOO 0 (by kernel_rfl)
          | 1, _ => hOO 1 (by kernel_rfl)
          | 2, _ => hOO 2 (by kernel_rfl)
          | 3, _ => hOO 3 (by kernel_rfl)
          | 4, _ => hOO 4 (by kernel_rfl)
          | 5, _ => hOO 5 (by kernel_rfl)
          | 6, _ => hOO 6 (by kernel_rfl)
          | 7, _ => hOO 7 (by kernel_rfl)
          | 8, _ => hOO 8 (by kernel_rfl)
          | 9, _ => f9
          | 10, _ => hOO 10 (by kernel_rfl)
          | 11, _ => hOO 11 (by kernel_rfl)
          | 12, _ => hOO 12 (by kernel_rfl)
          | 13, _ => hOO 13 (by kernel_rfl)
          | 14, _ => hOO 14 (by kernel_rfl)
          | 15, _ => hOO 15 (by kernel_rfl)
          | 16, _ => hOO 16 (by kernel_rfl)
          | 17, _ => hOO 17 (by kernel_rfl)
          | 18, _ => hOO 18 (by kernel_rfl)
          | 19, _ => hOO 19 (by kernel_rfl)
          | 20, _ => hOO 20 (by kernel_rfl)
          | 21, _ => hOO 21 (by kernel_rfl)
          | 22, _ => hOO 22 (by kernel_rfl)
          | 23, _ => hOO 23 (by kernel_rfl)
          | 24, _ => hOO 24 (by kernel_rfl)
          | 25, _ => hOO 25 (by kernel_rfl)
          | 26, _ => hOO 26 (by kernel_rfl)
          | 27, _ => hOO 27 (by kernel_rfl)
          | 28, _ => hOO 28 (by kernel_rfl)
          | 29, _ => hOO 29 (by kernel_rfl)
          | 30, _ => hOO 30 (by kernel_rfl)
          | 31, _ => hOO 31 (by kernel_rfl)
          | 32, _ => hOO 32 (by kernel_rfl)
          | 33, _ => hOO 33 (by kernel_rfl)
          | 34, _ => hOO 34 (by kernel_rfl)
          | 35, _ => hOO 35 (by kernel_rfl)
          | 36, _ => hOO 36 (by kernel_rfl)
          | 37, _ => hOO 37 (by kernel_rfl)
          | 38, _ => hOO 38 (by kernel_rfl)
          | 39, _ => hOO 39 (by kernel_rfl)
          | 40, _ => hOO 40 (by kernel_rfl)
          | 41, _ => hOO 41 (by kernel_rfl)
          | 42, _ => hOO 42 (by kernel_rfl)
          | 43, _ => hOO 43 (by kernel_rfl)
          | 44, _ => hOO 44 (by kernel_rfl)
          | 45, _ => hOO 45 (by kernel_rfl)
          | 46, _ => hOO 46 (by kernel_rfl)
          | 47, _ => hOO 47 (by kernel_rfl)
          | 48, _ => hOO 48 (by kernel_rfl)
          | 49, _ => hOO 49 (by kernel_rfl)
          | 50, _ => hOO 50 (by kernel_rfl)
          | 51, _ => hOO 51 (by kernel_rfl)
          | 52, _ => hOO 52 (by kernel_rfl)
          | 53, _ => hOO 53 (by kernel_rfl)
          | 54, _ => (hDD 0 (by omega)).trans e0
          | 55, _ => (hDD 1 (by omega)).trans e1
          | 56, _ => (hDD 2 (by omega)).trans e2
          | 57, _ => (hDD 3 (by omega)).trans e3
          | 58, _ => (hDD 4 (by omega)).trans e4
          | 59, _ => (hDD 5 (by omega)).trans e5
          | 60, _ => (hDD 6 (by omega)).trans e6
          | 61, _ => (hDD 7 (by omega)).trans e7
          | 62, _ => (hDD 8 (by omega)).trans e8
          | 63, _ => (hDD 9 (by omega)).trans e9
          | 64, _ => (hDD 10 (by omega)).trans e10
          | 65, _ => (hDD 11 (by omega)).trans e11
          | 66, _ => (hDD 12 (by omega)).trans e12
          | 67, _ => (hDD 13 (by omega)).trans e13
          | 68, _ => (hDD 14 (by omega)).trans e14
          | 69, _ => (hDD 15 (by omega)).trans e15
          | 70, _ => (hDD 16 (by omega)).trans e16
          | 71, _ => (hDD 17 (by omega)).trans e17
          | 72, _ => (hDD 18 (by omega)).trans e18
          | 73, _ => (hDD 19 (by omega)).trans e19
          | 74, _ => (hDD 20 (by omega)).trans e20
          | 75, _ => (hDD 21 (by omega)).trans e21
          | 76, _ => (hDD 22 (by omega)).trans e22
          | 77, _ => (hDD 23 (by omega)).trans e23
          | 78, _ => (hDD 24 (by omega)).trans e24
          | 79, _ => (hDD 25 (by omega)).trans e25
          | 80, _ => (hDD 26 (by omega)).trans e26
          | 81, _ => (hDD 27 (by omega)).trans e27
          | 82, _ => (hDD 28 (by omega)).trans e28
          | 83, _ => (hDD 29 (by omega)).trans e29
          | 84, _ => (hDD 30 (by omega)).trans e30
          | 85, _ => (hDD 31 (by omega)).trans e31
          | 86, _ => (hDD 32 (by omega)).trans e32
          | 87, _ => (hDD 33 (by omega)).trans e33
          | 88, _ => (hDD 34 (by omega)).trans e34
          | 89, _ => (hDD 35 (by omega)).trans e35
          | 90, _ => (hDD 36 (by omega)).trans e36
          | 91, _ => (hDD 37 (by omega)).trans e37
          | 92, _ => (hDD 38 (by omega)).trans e38
          | 93, _ => (hDD 39 (by omega)).trans e39
          | 94, _ => (hDD 40 (by omega)).trans e40
          | 95, _ => (hDD 41 (by omega)).trans e41
          | 96, _ => (hDD 42 (by omega)).trans e42
          | 97, _ => (hDD 43 (by omega)).trans e43
          | 98, _ => (hDD 44 (by omega)).trans e44
          | 99, _ => (hDD 45 (by omega)).trans e45
          | 100, _ => (hDD 46 (by omega)).trans e46
          | 101, _ => (hDD 47 (by omega)).trans e47
          | 102, _ => (hDD 48 (by omega)).trans e48
          | 103, _ => (hDD 49 (by omega)).trans e49
          | 104, _ => (hDD 50 (by omega)).trans e50
          | 105, _ => (hDD 51 (by omega)).trans e51
          | 106, _ => (hDD 52 (by omega)).trans e52
          | 107, _ => f107
          | 108, _ => f108
          | 109, _ => hOO 109 (by kernel_rfl)
          | 110, _ => hOO 110 (by kernel_rfl)
          | 111, _ => hOO 111 (by kernel_rfl)
          | 112, _ => hOO 112 (by kernel_rfl)
          | 113, _ => hOO 113 (by kernel_rfl)
          | 114, _ => hOO 114 (by kernel_rfl)
          | 115, _ => hOO 115 (by kernel_rfl)
          | 116, _ => hOO 116 (by kernel_rfl)
          | (k + 117), h => absurd h (by simp))
          have Y0 : Bx w g0 #[.int .i64 d0, .int .i64 d1, .int .i64 l0, .int .i64 l1, .int .i64 p0, .int .i64 p1, .slice A n c, .int .i64 la] w3 := (show Bx w g0 #[.int .i64 d0, .int .i64 d1, .int .i64 l0, .int .i64 l1, .int .i64 p0, .int .i64 p1, .slice A n c, .int .i64 la] wc.drew from X0.drew).call hE
          have Y1 : Bx w k0 #[.int .i64 k.t, .int .i64 k.m, .int .i64 k.r, .int .i64 k.v, .int .i64 k.s, .bool k.dr, .bool k.sh, .bool k.st, .bool k.fa, .int .i64 k.ad, .int .i64 k.ti, .int .i64 k.ba, .int .i64 k.en, .bool k.od, .int .i64 k.ke, .bool k.wr, .int .i64 k.bd, .int .i64 k.ra, .bool k.kn, .int .i64 k.ou, .bool k.sl, .bool k.ov, .bool k.ak] w3 := X1.drew.call hE
          have Y2 : Bx w r0 #[.int .i64 0, .int .i64 0, .int .i64 0, .int .i64 0, .int .i64 0, .int .i64 0, .slice none 0 0, .int .i64 0] w3 := X2.drew.call hE
          have Y3 : Bx w q #[.int .i64 D0, .int .i64 D1, .int .i64 L0, .int .i64 L1, .int .i64 P0, .int .i64 P1, .slice B m d, .int .i64 0] w3 := X3.drew.call hE
          have hi3 := HI _ hE
          clear hDD hOO hO hE f9 f107 f108 HB_q HB_k0 HI e0 e1 e2 e3 e4 e5 e6 e7 e8 e9 e10 e11 e12 e13 e14 e15 e16 e17 e18 e19 e20 e21 e22 e23 e24 e25 e26 e27 e28 e29 e30 e31 e32 e33 e34 e35 e36 e37 e38 e39 e40 e41 e42 e43 e44 e45 e46 e47 e48 e49 e50 e51 e52
          go_wp2
          go_meet
          exact ⟨by first | rfl | (rw [← HHE.out]; rfl), hi3, Y0, Y1, Y2, Y3⟩
    case rest =>
      obtain ⟨rfl, hi, X0, X1, X2, X3⟩ := hcut
      clear HOV HF0 HF1 HMI HDY HT0 HT1 HHE
      have CG := X0.box.2.1
      go_upto_region 4 with (fail)
      refine wp_region_lit ?_
      refine wpList_val rfl (v := .pointer (some ⟨g0, 7, none⟩)) (w' := wc) (by simp [go_sem]) ?_
      simp only [Act.put, List.setIfInBounds_toArray, List.set_cons_zero, List.set_cons_succ]
      refine wpList_val rfl (v := .int .i64 la) (w' := wc) (by simp [go_sem, CG]) ?_
      simp only [Act.put, List.setIfInBounds_toArray, List.set_cons_zero, List.set_cons_succ]
      refine wpList_val rfl (v := .int .i64 HE) (w' := wc) (by simp [go_sem]) ?_
      simp only [Act.put, List.setIfInBounds_toArray, List.set_cons_zero, List.set_cons_succ]
      refine wpList_load_box rfl _ _ rfl k0 rfl #[.int .i64 k.t, .int .i64 k.m, .int .i64 k.r, .int .i64 k.v, .int .i64 k.s, .bool k.dr, .bool k.sh, .bool k.st, .bool k.fa, .int .i64 k.ad, .int .i64 k.ti, .int .i64 k.ba, .int .i64 k.en, .bool k.od, .int .i64 k.ke, .bool k.wr, .int .i64 k.bd, .int .i64 k.ra, .bool k.kn, .int .i64 k.ou, .bool k.sl, .bool k.ov, .bool k.ak] _ X1.box Tryz.underlying38 rfl (by kernel_rfl) ?_
      simp only [Act.put, List.setIfInBounds_toArray, List.set_cons_zero, List.set_cons_succ]
      clear CG
      go_wp2_with (fail)
      refine (HLA.out _).mono ?_
      rintro e w4 ⟨rfl, hb⟩
      have A4 := below_call X0.bel hb
      have hi4 := hi.below hb
      have BQ := X3.box.below hb
      have BR := X2.box.below hb
      clear hb X0 X1 X2 X3 hi
      have nq : ¬ q = r0 := by omega
      have nr : ¬ r0 = q := by omega
      have hiq := Lib.hid (ints_set hi4 (fun b o e => (HNE.out b o e).1) 7 (.int .i64 LA))
      have BQ7 := Lib.hid (box_cast (cs' := #[.int .i64 D0, .int .i64 D1, .int .i64 L0, .int .i64 L1, .int .i64 P0, .int .i64 P1, .slice B m d, .int .i64 LA]) (BQ.set (i := 7) (by simp) (.int .i64 LA)) rfl)
      have BR7 := Lib.hid (BR.far (p := ⟨q, 7, none⟩) (by simpa using nq) (.int .i64 LA))
      have AQ7 := Lib.hid (below_set_on A4 (p := ⟨q, 7, none⟩) (by simp; omega) (.int .i64 LA))
      have lq := BQ.1
      have cq := BQ.2.1
      have fq := BQ.2.2
      clear BQ BR hi4 A4
      go_upto_region 5 with (fail)
      refine at_world (fun W => Below w.heap.size w W ∧ Ints W B m ys ∧ Box W q #[.int .i64 D0, .int .i64 D1, .int .i64 L0, .int .i64 L1, .int .i64 P0, .int .i64 P1, .slice B m d, .int .i64 LA] ∧ Box W r0 #[.int .i64 0, .int .i64 0, .int .i64 0, .int .i64 0, .int .i64 0, .int .i64 0, .slice none 0 0, .int .i64 0]) ⟨AQ7.out, hiq.out, BQ7.out, BR7.out⟩ ?_
      clear AQ7 hiq BQ7 BR7 lq cq fq
      rintro w5 ⟨A5, hi5, BQ, BR⟩
      have hir := Lib.hid (ints_set (ints_set (ints_set (ints_set (ints_set (ints_set (ints_set (ints_set (hi5) (fun b o e => (HNE.out b o e).2.1) 0 (.int .i64 D0)) (fun b o e => (HNE.out b o e).2.1) 1 (.int .i64 D1)) (fun b o e => (HNE.out b o e).2.1) 2 (.int .i64 L0)) (fun b o e => (HNE.out b o e).2.1) 3 (.int .i64 L1)) (fun b o e => (HNE.out b o e).2.1) 4 (.int .i64 P0)) (fun b o e => (HNE.out b o e).2.1) 5 (.int .i64 P1)) (fun b o e => (HNE.out b o e).2.1) 6 (.slice B m d)) (fun b o e => (HNE.out b o e).2.1) 7 (.int .i64 LA))
      have B8 := Lib.hid (Box.eight_set BR (.int .i64 D0) (.int .i64 D1) (.int .i64 L0) (.int .i64 L1) (.int .i64 P0) (.int .i64 P1) (.slice B m d) (.int .i64 LA))
      have AR := Lib.hid A5
      have lq := BQ.1
      have cq := BQ.2.1
      have fq := BQ.2.2
      have lr := BR.1
      have cr := BR.2.1
      have fr := BR.2.2
      clear BQ BR hi5 A5
      go_cut [5] (fun v wx => v = .int .i64 HE ∧ Below w.heap.size w wx ∧ Ints wx B m ys ∧ Box wx r0 #[.int .i64 D0, .int .i64 D1, .int .i64 L0, .int .i64 L1, .int .i64 P0, .int .i64 P1, .slice B m d, .int .i64 LA])
      case first =>
        go_wp2
        go_meet
        exact ⟨rfl, by (have A4 := AR.out); (repeat (first | (with_reducible exact Below.refl _ _) | (with_reducible assumption) | (with_reducible refine Near.up _ ?_) | (with_reducible refine Below.drew ?_) | (with_reducible refine below_alloc_on ?_ _) | (with_reducible refine below_set_on ?_ (by first | (simp; done) | (simp; omega) | omega) _))), hir.out, B8.out⟩
      case rest =>
        clear hir B8 AR lq cq fq lr cr fr
        obtain ⟨rfl, A6, hi6, BR⟩ := hcut
        have cr := BR.2.1
        have HA6 := Lib.hid A6
        have HI6 := Lib.hid hi6
        clear A6 hi6
        go_wp2
        exact bodyPost_ret (v := .tuple #[.agg #[.int .i64 D0, .int .i64 D1, .int .i64 L0, .int .i64 L1, .int .i64 P0, .int .i64 P1, .slice B m d, .int .i64 LA], .int .i64 HE]) (by simp [results, Tryz.results5, go_sem, cr]) rfl ⟨B, d, rfl, hd, HI6.out, fun b o e => (HNE.out b o e).2.2, HA6.out⟩
end Go.Proofs.YtmocppghmdeahaaGreat
