/- Contracts of package monitor: fresh, New, Step, Run. -/
import Derived.Test.YtmemhlhjkpijpaaMonT
namespace Go.Proofs.Ytmemhlhjkpijpaa
open Go.RowKit
set_option linter.unusedVariables false
set_option linter.unusedSimpArgs false
set_option maxRecDepth 100000
attribute [local go_sem] cell_set_ite Near.cell Near.frozen

def frV (op : Int) : Int := if op = 6 ∨ op = 7 then -1 else 0
set_option maxHeartbeats 4000000 in
theorem mo_fresh (A : Option Addr) (n c : Nat) (ts : Nat → Tm) (w : World) (h : Terms w A n ts) (hn : n ≤ 100000) : Calls Try.prog 27 #[.slice A n c] w fun e w' => ∃ g, e = .returned (.slice (some ⟨g, 0, none⟩) n n) ∧ Col w' g n (fun i => .int .i64 (frV (ts i).op)) ∧ w.heap.size ≤ g ∧ Below w.heap.size w w' := by
  have HI := Lib.hid h
  obtain ⟨i0, hi0, hz0, hz1, hz2⟩ := info_parts int_info
  have hmk := fun w => run_make (P := Try.prog) w 49 3 i0 _ Try.underlying49 hi0 hz0 .i64 .i64 n n (by omega) (by omega) (by rw [hz2]; omega) (by omega)
  simp only [hz1, Int.toNat_natCast, Nat.mul_one, show (Value.int .i64 0).cells = #[.int .i64 0] from rfl] at hmk
  have A0 : Below w.heap.size w w := Below.refl _ _
  clear h hz0 hz1 hz2 hi0
  go_enter Try.func27, Try.ntmps27
  go_wp2
  refine at_world (fun W => Below w.heap.size w W ∧ Col W w.heap.size n (fun _ => .int .i64 0)) ⟨by (repeat (first | (with_reducible exact Below.refl _ _) | (with_reducible assumption) | (with_reducible refine Near.up _ ?_) | (with_reducible refine Below.drew ?_) | (with_reducible refine below_alloc_on ?_ _) | (with_reducible refine below_set_on ?_ (by first | (simp; done) | (simp; omega) | omega) _))), col_new _ _ _ _⟩ ?_
  rintro w1 ⟨A1, CN⟩
  clear hmk A0
  obtain ⟨nb, hnb⟩ : ∃ nb, w.heap.size = nb := ⟨_, rfl⟩
  have wn : w.heap.size ≤ nb := by omega
  rw [hnb] at CN
  simp only [hnb]
  clear hnb
  go_loopg [11] n (fun gk i wr => ∃ k : Nat, k ≤ n ∧ gk = n - k ∧ i = .int .i64 k ∧ Below w.heap.size w wr ∧ Col wr nb n (fun i => if i < k then .int .i64 (frV (ts i).op) else .int .i64 0))
  case atStart => exact ⟨0, by omega, rfl, rfl, A1, CN.congr (fun i _ => by rw [if_neg (by omega)])⟩
  case round =>
    clear A1 CN
    obtain ⟨k, hk, rfl, rfl, A1, CN⟩ := hrel
    by_cases hlt : k < n
    · obtain ⟨b, off, rfl, hbs, hcell⟩ := HI.out.2 (by omega)
      have c0 := (A1.cell (p := ⟨b, off + k * 3, none⟩) hbs).trans (hcell k hlt).1
      have c1 := (A1.cell (p := ⟨b, off + k * 3 + 1, none⟩) hbs).trans (hcell k hlt).2.1
      have c2 := (A1.cell (p := ⟨b, off + k * 3 + 2, none⟩) hbs).trans (hcell k hlt).2.2
      have cN := CN.cell k hlt
      rw [if_neg (by omega)] at cN
      have lN := CN.lt
      have fN := CN.frz
      have HV := Lib.hid (show frV (ts k).op = if (ts k).op = 6 ∨ (ts k).op = 7 then -1 else 0 from rfl)
      have HC := Lib.hid CN
      clear hcell CN
      generalize (ts k).a = ta at *
      generalize (ts k).b = tb at *
      have A2 := below_alloc_on A1 (.cells #[.int .i64 (ts k).op, .int .i64 ta, .int .i64 tb] 36)
      have HNX := Lib.hid (fun (v : Int) (w' : World) (hv : frV (ts k).op = v) (C : Col w' nb n (fun i => if i = k then .int .i64 v else if i < k then .int .i64 (frV (ts i).op) else .int .i64 0)) => C.congr (G := fun i => if i < k + 1 then .int .i64 (frV (ts i).op) else .int .i64 0) (fun i _ => by
        by_cases e2 : i = k
        · subst e2; rw [if_pos rfl, if_pos (by omega), hv]
        · rw [if_neg e2]
          by_cases e : i < k
          · rw [if_pos e, if_pos (by omega)]
          · rw [if_neg e, if_neg (by omega)]))
      generalize hop : (ts k).op = op at *
      clear hop
      have lw : nb ≠ wr.heap.size := by omega
      by_cases h67 : op = 6 ∨ op = 7
      · have hv : frV op = -1 := HV.out.trans (if_pos h67)
        have C4 := Lib.hid (HNX.out (-1) _ hv ((HC.out.alloc (.cells #[.int .i64 op, .int .i64 ta, .int .i64 tb] 36)).set hlt (.int .i64 (-1))))
        have C5 := Lib.hid (HNX.out (-1) _ hv ((HC.out.set hlt (.int .i64 (-1))).alloc (.cells #[.int .i64 op, .int .i64 ta, .int .i64 tb] 36)))
        clear HNX HV hv HC
        rcases h67 with rfl | rfl
        all_goals
          go_wp2
          go_roundg (n - (k + 1))
          case measure => omega
          case rel => exact ⟨k + 1, by omega, by omega, by go_num, by (repeat (first | (with_reducible exact Below.refl _ _) | (with_reducible assumption) | (with_reducible refine Near.up _ ?_) | (with_reducible refine Below.drew ?_) | (with_reducible refine below_alloc_on ?_ _) | (with_reducible refine below_set_on ?_ (by first | (simp; done) | (simp; omega) | omega) _))), by first | exact C5.out | exact C4.out⟩
      · have hv : frV op = 0 := HV.out.trans (if_neg h67)
        have t6 : (op == 6) = false := by simp; omega
        have t7 : (op == 7) = false := by simp; omega
        have C4 := Lib.hid (HNX.out 0 _ hv ((HC.out.alloc (.cells #[.int .i64 op, .int .i64 ta, .int .i64 tb] 36)).congr (fun i _ => by
          by_cases e2 : i = k
          · subst e2; rw [if_pos rfl, if_neg (by omega)]
          · rw [if_neg e2])))
        clear HNX HV hv HC h67
        go_wp2
        go_roundg (n - (k + 1))
        case measure => omega
        case rel => exact ⟨k + 1, by omega, by omega, by go_num, by (repeat (first | (with_reducible exact Below.refl _ _) | (with_reducible assumption) | (with_reducible refine Near.up _ ?_) | (with_reducible refine Below.drew ?_) | (with_reducible refine below_alloc_on ?_ _) | (with_reducible refine below_set_on ?_ (by first | (simp; done) | (simp; omega) | omega) _))), C4.out⟩
    · obtain rfl : k = n := by omega
      have HC := Lib.hid (CN.congr (G := fun i => .int .i64 (frV (ts i).op)) (fun i hi => by rw [if_pos hi]))
      clear CN
      go_wp2
      all_goals go_ret
      all_goals exact ⟨nb, rfl, HC.out, wn, A1⟩

theorem mo_new (A : Option Addr) (n c : Nat) (ts : Nat → Tm) (w : World) (h : Terms w A n ts) (hr : rtB ts n = true) : Calls Try.prog 23 #[.slice A n c] w fun e w' => ∃ g, e = .returned (.tuple #[.slice (some ⟨g, 0, none⟩) n n, .bool true]) ∧ Col w' g n (fun i => .int .i64 (frV (ts i).op)) ∧ w.heap.size ≤ g ∧ Below w.heap.size w w' := by
  have hn : n ≤ 40 := by
    unfold rtB at hr
    have : n ≤ 40 ∧ okB ts n = true ∧ rdN ts n = 1 := by simpa using hr
    exact this.1
  have A0 : Below w.heap.size w w := Below.refl _ _
  have HR := Lib.hid (fun w' (hb : Below w.heap.size w w') => fo_right A n c ts w' (h.below hb))
  have HF := Lib.hid (fun w' (hb : Below w.heap.size w w') => mo_fresh A n c ts w' (h.below hb) (by omega))
  rw [hr] at HR
  clear h hr
  go_enter Try.func23, Try.ntmps23
  go_wp2_with (fail)
  refine (HR.out _ A0).mono ?_
  rintro e w1 ⟨rfl, hb⟩
  have A1 := below_call A0 hb
  clear hb
  go_wp2_with (fail)
  refine (HF.out _ A1).mono ?_
  rintro e w2 ⟨g, rfl, C, wg, hb⟩
  have A2 := below_call A1 hb
  have HC := Lib.hid C
  have hs := A1.size
  clear hb C
  go_wp2
  exact bodyPost_ret (v := .tuple #[.slice (some ⟨g, 0, none⟩) n n, .bool true]) (by simp [results, Try.results23, go_sem]) rfl ⟨g, rfl, HC.out, by omega, A2⟩
theorem mo_next (A : Option Addr) (n c : Nat) (ts : Nat → Tm) (K : Option Addr) (d : Nat) (ks : List Int) (o : Ou) (w : World) (h : Terms w A n ts) (hk : Ints w K n ks) (hr : rtB ts n = true) :
    Calls Try.prog 24 #[.slice A n c, .slice K n d, .agg o.cells] w fun e w' => ∃ g, e = .returned (.tuple #[.slice (some ⟨g, 0, none⟩) n n, .bool (skF ts ks o n 0)]) ∧ Col w' g n (fun i => .int .i64 (nxV ts ks o i)) ∧ w.heap.size ≤ g ∧ Below w.heap.size w w' := by
  have A0 : Below w.heap.size w w := Below.refl _ _
  have HR := Lib.hid (fun w' (hb : Below w.heap.size w w') => fo_right A n c ts w' (h.below hb))
  have HF := Lib.hid (fun w' (hb : Below w.heap.size w w') => mo_step A n c ts K d ks o w' (h.below hb) (hk.below hb) hr)
  rw [hr] at HR
  clear h hk hr
  unfold Ou.cells at HF ⊢
  go_enter Try.func24, Try.ntmps24
  go_wp2_with (fail)
  have BO := box_new w #[.int .i64 o.tick, .int .i64 o.mode, .int .i64 o.latch, .int .i64 o.notes, .int .i64 o.level, .int .i64 o.buzzer, .int .i64 o.opn, .int .i64 o.pos, .int .i64 o.volume, .bool o.drop, .string o.frame] 29
  refine (HR.out _ (by (repeat (first | (with_reducible exact Below.refl _ _) | (with_reducible assumption) | (with_reducible refine Near.up _ ?_) | (with_reducible refine Below.drew ?_) | (with_reducible refine below_alloc_on ?_ _) | (with_reducible refine below_set_on ?_ (by first | (simp; done) | (simp; omega) | omega) _))))).mono ?_
  rintro e w1 ⟨rfl, hb⟩
  have A1 : Below w.heap.size w w1 := below_call (by (repeat (first | (with_reducible exact Below.refl _ _) | (with_reducible assumption) | (with_reducible refine Near.up _ ?_) | (with_reducible refine Below.drew ?_) | (with_reducible refine below_alloc_on ?_ _) | (with_reducible refine below_set_on ?_ (by first | (simp; done) | (simp; omega) | omega) _)))) hb
  obtain ⟨lB, cB, fB⟩ := BO.below hb
  clear hb BO
  go_wp2_with (fail)
  refine (HF.out _ A1).mono ?_
  rintro e w2 ⟨g, rfl, C, wg, hb⟩
  have A2 := below_call A1 hb
  have HC := Lib.hid C
  have hs := A1.size
  obtain ⟨v, hv⟩ : ∃ v, skF ts ks o n 0 = v := ⟨_, rfl⟩
  rw [hv]
  clear hb C cB fB lB
  go_wp2
  exact bodyPost_ret (v := .tuple #[.slice (some ⟨g, 0, none⟩) n n, .bool v]) (by simp [results, Try.results24, go_sem]) rfl ⟨g, by rw [hv], HC.out, by omega, A2⟩
end Go.Proofs.Ytmemhlhjkpijpaa
