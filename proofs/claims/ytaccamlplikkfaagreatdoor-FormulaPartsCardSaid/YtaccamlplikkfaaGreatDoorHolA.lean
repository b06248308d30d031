/- Contracts of package formula: where a part begins; slices.Clone and Reverse at its types; Parts. -/
import Derived.Test.YtaccamlplikkfaaGreatDoorHolN
import Derived.Test.YtaccamlplikkfaaGreatDoorGv
import Derived.Lib.SliceRun
namespace Go.Proofs.YtaccamlplikkfaaGreatDoor
open Go.RowKit
set_option linter.unusedVariables false
set_option linter.unusedSimpArgs false
set_option maxRecDepth 100000
attribute [local go_sem] cell_set_ite Near.cell Near.frozen

/-- Where the formula begins that ends ahead of e. -/
def Bgn (ts : Nat → Tm) (e b : Nat) : Prop := b < e ∧ rdN ts b + 1 = rdN ts e ∧ ∀ q, b < q → q ≤ e → rdN ts e ≤ rdN ts q
def BgnR (ts : Nat → Tm) (e : Nat) (w : World) (r : Ending) (w' : World) : Prop := ∃ b : Nat, r = .returned (.int .i64 b) ∧ Bgn ts e b ∧ w = w'
set_option maxHeartbeats 2000000 in
theorem fo_begins (A : Option Addr) (n c e : Nat) (ts : Nat → Tm) (w : World) (h : Terms w A n ts) (ho : okB ts n = true) (he : e ≤ n) (h1 : 1 ≤ rdN ts e) (hn : n ≤ 100000) :
    Calls Tryz.prog 17 #[.slice A n c, .int .i64 e] w (BgnR ts e w) := by
  have HI := Lib.hid h
  have HO := Lib.hid (fun k (hk : k < n) => rd_next ts hk ho)
  have HD := Lib.hid (fun k (hk : k < n) => (hk_at ts hk ho).2)
  have H2 := Lib.hid (fun op w => fo_needs op w)
  clear h ho
  go_enter Tryz.func17, Tryz.ntmps17
  go_wp2_with (fail)
  go_loopg [1, 5] (e + 1) (fun gk x y wr => ∃ k : Nat, k ≤ e ∧ gk = k + 1 ∧ x = .int .i64 k ∧ y = .int .i64 ((1 + rdN ts k : Nat) - (rdN ts e : Nat) : Int) ∧ rdN ts e ≤ rdN ts k + 1 ∧ (∀ q, k < q → q ≤ e → rdN ts e ≤ rdN ts q) ∧ wr = w)
  case atStart => exact ⟨e, Nat.le_refl _, rfl, rfl, by congr 1; omega, by omega, fun q h1 h2 => by omega, rfl⟩
  case round =>
    obtain ⟨k, hk, rfl, rfl, rfl, hle, hq, rfl⟩ := hrel
    have HQ := Lib.hid hq
    clear hq
    have hrk := rdN_le ts k
    have hre := rdN_le ts e
    by_cases hz : rdN ts e ≤ rdN ts k
    · have k0 : 0 < k := by
        rcases Nat.eq_zero_or_pos k with e0 | e0
        · rw [e0, show rdN ts 0 = 0 from rfl] at hz; omega
        · exact e0
      obtain ⟨j, rfl⟩ : ∃ j, k = j + 1 := ⟨k - 1, by omega⟩
      obtain ⟨b, off, rfl, hbs, hcell⟩ := HI.out.2 (by omega)
      have c0 := (hcell j (by omega)).1
      have hx := HO.out j (by omega)
      have hd := HD.out j (by omega)
      have hnl := nd_le (ts j).op
      have hrj := rdN_le ts j
      have HX := Lib.hid hx
      have HR := Lib.hid (show rdN ts e ≤ rdN ts j + 1 by omega)
      have HQ2 := Lib.hid (show ∀ q, j < q → q ≤ e → rdN ts e ≤ rdN ts q from fun q h1 h2 => by
        by_cases e1 : q = j + 1
        · rw [e1]; exact hz
        · exact HQ.out q (by omega) h2)
      have t0 : decide (0 < ((1 + rdN ts (j + 1) : Nat) - (rdN ts e : Nat) : Int)) = true := decide_eq_true (by omega)
      have wj : IntKind.i64.wrap (((j + 1 : Nat) : Int) - 1) = (j : Int) := by rw [IntKind.wrap_i64]; omega
      have w1 : IntKind.i64.wrap ((ndN (ts j).op : Int) - 1) = (ndN (ts j).op : Int) - 1 := by rw [IntKind.wrap_i64]; omega
      have w2 : IntKind.i64.wrap (((1 + rdN ts (j + 1) : Nat) - (rdN ts e : Nat) : Int) + ((ndN (ts j).op : Int) - 1)) = ((1 + rdN ts j : Nat) - (rdN ts e : Nat) : Int) := by rw [IntKind.wrap_i64]; omega
      clear HQ hz hle hx hd hcell hnl hrj k0
      obtain ⟨y1, hy1⟩ : ∃ y1, ((1 + rdN ts j : Nat) - (rdN ts e : Nat) : Int) = y1 := ⟨_, rfl⟩
      have HY := Lib.hid hy1
      rw [hy1] at w2
      clear hy1
      generalize ((1 + rdN ts (j + 1) : Nat) - (rdN ts e : Nat) : Int) = y0 at *
      go_wp2_with (go_at_call 16; refine (H2.out _ _).mono ?_; rintro e w' ⟨rfl, rfl⟩)
      go_roundg (j + 1)
      case measure => omega
      case rel => exact ⟨j, by omega, rfl, rfl, by rw [HY.out], HR.out, HQ2.out, rfl⟩
    · have hlt : k < e := by
        rcases Nat.lt_or_ge k e with g | g
        · exact g
        · obtain rfl : k = e := by omega
          omega
      have t0 : decide (0 < ((1 + rdN ts k : Nat) - (rdN ts e : Nat) : Int)) = false := decide_eq_false (by omega)
      have HB := Lib.hid (show Bgn ts e k from ⟨hlt, by omega, HQ.out⟩)
      clear HQ hz hle hlt
      generalize ((1 + rdN ts k : Nat) - (rdN ts e : Nat) : Int) = y0 at *
      go_wp2_with (fail)
      all_goals go_ret
      all_goals exact ⟨k, rfl, HB.out, rfl⟩

theorem term_info : (Tryz.prog.info? 35).map (fun i => (i.zero, i.size, i.bytes)) = some (some (.agg #[.int .i64 0, .int .i64 0, .int .i64 0]), 3, 24) := by kernel_rfl
/-- The cells of n parts. -/
def tmL (ts : Nat → Tm) : Nat → List Value
  | 0 => []
  | k + 1 => tmL ts k ++ [.int .i64 (ts k).op, .int .i64 (ts k).a, .int .i64 (ts k).b]
theorem tmL_len (ts : Nat → Tm) : ∀ n, (tmL ts n).length = n * 3
  | 0 => rfl
  | k + 1 => by unfold tmL; simp [tmL_len ts k]; omega
theorem tmL_at (ts : Nat → Tm) : ∀ n i, i < n → (tmL ts n)[i * 3]? = some (.int .i64 (ts i).op) ∧ (tmL ts n)[i * 3 + 1]? = some (.int .i64 (ts i).a) ∧ (tmL ts n)[i * 3 + 2]? = some (.int .i64 (ts i).b)
  | k + 1, i, hi => by
    have hl := tmL_len ts k
    unfold tmL
    by_cases e : i = k
    · subst e
      refine ⟨?_, ?_, ?_⟩
      · rw [List.getElem?_append_right (by omega), show i * 3 - (tmL ts i).length = 0 by omega]; rfl
      · rw [List.getElem?_append_right (by omega), show i * 3 + 1 - (tmL ts i).length = 1 by omega]; rfl
      · rw [List.getElem?_append_right (by omega), show i * 3 + 2 - (tmL ts i).length = 2 by omega]; rfl
    · have ih := tmL_at ts k i (by omega)
      rw [List.getElem?_append_left (by omega), List.getElem?_append_left (by omega), List.getElem?_append_left (by omega)]
      exact ih
theorem tmL_one (ts : Nat → Tm) : ∀ n, ∀ u ∈ tmL ts n, u.oneCell' = true
  | 0, u, h => by simp [tmL] at h
  | k + 1, u, h => by
    unfold tmL at h
    rcases List.mem_append.1 h with h | h
    · exact tmL_one ts k u h
    · simp at h
      rcases h with rfl | rfl | rfl <;> rfl
/-- Parts of the call's own. -/
theorem Terms.of_own {w : World} {base n c : Nat} {A : Option Addr} {ts : Nat → Tm} (hb : ∀ i, i < n → (ts i).b ≤ 9223372036854775807) (h : w.ownsRow base 35 3 (.slice A n c) n (tmL ts n)) (h0 : 0 < n) :
    ∃ g, A = some ⟨g, 0, none⟩ ∧ Terms w A n ts ∧ base ≤ g ∧ g < w.heap.size := by
  rcases h.2 with ⟨_, e⟩ | ⟨g, cap, cur, hv, hbg, hg, hnc, _, hsz, htk⟩
  · omega
  · have hA : A = some ⟨g, 0, none⟩ := by injection hv
    subst hA
    have hlt : g < w.heap.size := (Array.getElem?_eq_some_iff.1 hg).1
    refine ⟨g, rfl, ⟨hb, fun _ => ⟨g, 0, rfl, hlt, fun i hi => ?_⟩⟩, hbg, hlt⟩
    obtain ⟨k0, k1, k2⟩ := tmL_at ts n i hi
    have hl := tmL_len ts n
    refine ⟨?_, ?_, ?_⟩
    · rw [Nat.zero_add, h.cellAt (i * 3) (by omega)]; exact k0
    · rw [Nat.zero_add, h.cellAt (i * 3 + 1) (by omega)]; exact k1
    · rw [Nat.zero_add, h.cellAt (i * 3 + 2) (by omega)]; exact k2
/-- A copy of parts. -/
def CloR (ts : Nat → Tm) (n : Nat) (w : World) (r : Ending) (w' : World) : Prop := ∃ g c, r = .returned (.slice (some ⟨g, 0, none⟩) n c) ∧ Terms w' (some ⟨g, 0, none⟩) n ts ∧ w.heap.size ≤ g ∧ g < w'.heap.size ∧ Below w.heap.size w w' ∧ n ≤ c
set_option maxHeartbeats 1000000 in
theorem sl_clone (A : Option Addr) (n c : Nat) (ts : Nat → Tm) (w : World) (h : Terms w A n ts) (h0 : 0 < n) (hn : n ≤ 100000) :
    Calls Tryz.prog 18 #[.slice A n c] w (CloR ts n w) := by
  have qT : ∀ (w : World) (a : Option Addr) (n c n' c' : Nat), (binOp .eql 22 (.slice a n c) (.slice none n' c')).run Tryz.prog w = .ok (.bool a.isNone) w := fun w a n c n' c' => Lib.run_eql_slice_nil w _ _ a n c n' c' Tryz.underlying22
  obtain ⟨b, off, rfl, hbs, hcell⟩ := h.2 h0
  have hbd := Lib.hid h.1
  obtain ⟨i0, hi0, hz0, hz1, hz2⟩ := info_parts term_info
  have HC := Lib.hid (show ∀ j u, (tmL ts n)[j]? = some u → w.cell? ((⟨b, off, none⟩ : Addr).add j) = some u from fun j u hj => by
    have hl := tmL_len ts n
    have hj3 : j < n * 3 := by have := (List.getElem?_eq_some_iff.1 hj).1; omega
    obtain ⟨i, r, hr, rfl⟩ : ∃ i r, r < 3 ∧ j = i * 3 + r := ⟨j / 3, j % 3, by omega, by omega⟩
    obtain ⟨k0, k1, k2⟩ := tmL_at ts n i (by omega)
    obtain ⟨d0, d1, d2⟩ := hcell i (by omega)
    rw [Addr.add_lit]
    match r, hr with
    | 0, _ => rw [Nat.add_zero] at hj ⊢; rw [d0, ← k0, hj]
    | 1, _ => rw [show off + (i * 3 + 1) = off + i * 3 + 1 by omega, d1, ← k1, hj]
    | 2, _ => rw [show off + (i * 3 + 2) = off + i * 3 + 2 by omega, d2, ← k2, hj])
  have hl := tmL_len ts n
  have A0 : Below w.heap.size w w := Below.refl _ _
  clear h hcell
  go_enter Tryz.func18, Tryz.ntmps18
  go_wp2_with (at_builtin; refine wpList_append_own _ rfl _ _ 22 rfl w.heap.size 35 i0 _ 3 24 Tryz.underlying22 hi0 hz0 hz1 hz2 rfl (by decide) _ 0 [] rfl (World.ownsRow_lit w #[] 0 (Nat.le_refl _) (Nat.zero_le _) rfl) ⟨b, off, none⟩ n c (tmL ts n) rfl hl ?_ (tmL_one ts n) (by unfold maxLen; omega) (by omega) (by simp) ?_)
  · intro j u hj
    have hc := HC.out j u hj
    exact ((below_alloc_on A0 _).cell (p := (⟨b, off, none⟩ : Addr).add j) (by rw [Addr.add_lit]; exact hbs)).trans hc
  · intro v' w1 h1 h2 _
    have hb1 : Below w.heap.size w w1 := (below_alloc_on A0 _).grown h2 (by simp) (fun g hg => by simp [Value.ownBlock] at hg; omega)
    obtain ⟨P, d, hP, hnd⟩ : ∃ B d, v' = .slice B n d ∧ n ≤ d := by
      rcases h1.2 with ⟨hv, h0⟩ | ⟨g, cap, cur, hv, _, _, hnc, _⟩
      · omega
      · exact ⟨_, cap, hv, by omega⟩
    subst hP
    obtain ⟨g, rfl, hT, hge, hlt⟩ := Terms.of_own hbd.out h1 h0
    have HX := Lib.hid (show Terms w1 (some ⟨g, 0, none⟩) n ts ∧ w.heap.size ≤ g ∧ g < w1.heap.size ∧ Below w.heap.size w w1 ∧ n ≤ d from ⟨hT, hge, hlt, hb1, hnd⟩)
    clear h1 h2 hT HC qT hbd hnd
    go_wp2_with (fail)
    all_goals go_ret
    all_goals exact ⟨g, d, rfl, HX.out⟩
end Go.Proofs.YtaccamlplikkfaaGreatDoor
