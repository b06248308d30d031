/- The monitor, and the document's, where there is no formula. -/
import Derived.Test.YtngmggccijmhfaaRef58E
namespace Go.Proofs.Ytngmggccijmhfaa
open Go.RowKit
set_option linter.unusedVariables false
set_option linter.unusedSimpArgs false
set_option maxRecDepth 100000
attribute [local go_sem] cell_set_ite Near.cell Near.frozen

theorem mo_new_no (A : Option Addr) (n c : Nat) (ts : Nat → Tm) (w : World) (h : Terms w A n ts) (hr : rtB ts n = false) : Calls Try.prog 18 #[.slice A n c] w fun e w' => e = .returned (.tuple #[.slice none 0 0, .bool false]) ∧ Below w.heap.size w w' := by
  have A0 : Below w.heap.size w w := Below.refl _ _
  have HR := Lib.hid (fo_right A n c ts w h)
  rw [hr] at HR
  clear h hr
  go_enter Try.func18, Try.ntmps18
  go_wp2_with (fail)
  refine HR.out.mono ?_
  rintro e w1 ⟨rfl, hb⟩
  go_wp2
  exact bodyPost_ret (v := .tuple #[.slice none 0 0, .bool false]) (by simp [results, Try.results18, go_sem]) rfl ⟨rfl, hb⟩
theorem r8_new_no (A : Option Addr) (n c : Nat) (ts : Nat → Tm) (w : World) (h : Terms w A n ts) (hr : rtB ts n = false) : Calls Try.prog 19 #[.slice A n c] w fun e w' => e = .returned (.tuple #[.slice none 0 0, .bool false]) ∧ Below w.heap.size w w' := by
  have A0 : Below w.heap.size w w := Below.refl _ _
  have HR := Lib.hid (r6_right A n c ts w h)
  rw [hr] at HR
  clear h hr
  go_enter Try.func19, Try.ntmps19
  go_wp2_with (fail)
  refine HR.out.mono ?_
  rintro e w1 ⟨rfl, hb⟩
  go_wp2
  exact bodyPost_ret (v := .tuple #[.slice none 0 0, .bool false]) (by simp [results, Try.results19, go_sem]) rfl ⟨rfl, hb⟩
theorem mo_next_no (A : Option Addr) (n c : Nat) (ts : Nat → Tm) (o : Ou) (w : World) (h : Terms w A n ts) (hr : rtB ts n = false) :
    Calls Try.prog 21 #[.slice A n c, .slice none 0 0, .agg o.cells] w fun e w' => e = .returned (.tuple #[.slice none 0 0, .bool false]) ∧ Below w.heap.size w w' := by
  have A0 : Below w.heap.size w w := Below.refl _ _
  have HR := Lib.hid (fun w' (hb : Below w.heap.size w w') => fo_right A n c ts w' (h.below hb))
  rw [hr] at HR
  clear h hr
  unfold Ou.cells
  rcases Nat.eq_zero_or_pos n with rfl | hn
  · go_enter Try.func21, Try.ntmps21
    go_wp2_with (fail)
    refine (HR.out _ (by (repeat (first | (with_reducible exact Below.refl _ _) | (with_reducible assumption) | (with_reducible refine Near.up _ ?_) | (with_reducible refine Below.drew ?_) | (with_reducible refine below_alloc_on ?_ _) | (with_reducible refine below_set_on ?_ (by first | (simp; done) | (simp; omega) | omega) _))))).mono ?_
    rintro e w1 ⟨rfl, hb⟩
    have A1 : Below w.heap.size w w1 := below_call (by (repeat (first | (with_reducible exact Below.refl _ _) | (with_reducible assumption) | (with_reducible refine Near.up _ ?_) | (with_reducible refine Below.drew ?_) | (with_reducible refine below_alloc_on ?_ _) | (with_reducible refine below_set_on ?_ (by first | (simp; done) | (simp; omega) | omega) _)))) hb
    go_wp2
    exact bodyPost_ret (v := .tuple #[.slice none 0 0, .bool false]) (by simp [results, Try.results21, go_sem]) rfl ⟨rfl, A1⟩
  · have t0 : ((0 : Int) != (n : Int)) = true := by simp; omega
    clear hn HR
    go_enter Try.func21, Try.ntmps21
    go_wp2
    exact bodyPost_ret (v := .tuple #[.slice none 0 0, .bool false]) (by simp [results, Try.results21, go_sem]) rfl ⟨rfl, by (repeat (first | (with_reducible exact Below.refl _ _) | (with_reducible assumption) | (with_reducible refine Near.up _ ?_) | (with_reducible refine Below.drew ?_) | (with_reducible refine below_alloc_on ?_ _) | (with_reducible refine below_set_on ?_ (by first | (simp; done) | (simp; omega) | omega) _)))⟩
theorem r8_step_no (A : Option Addr) (n c : Nat) (ts : Nat → Tm) (o : Ou) (w : World) (h : Terms w A n ts) (hr : rtB ts n = false) :
    Calls Try.prog 22 #[.slice A n c, .slice none 0 0, .agg o.cells] w fun e w' => e = .returned (.tuple #[.slice none 0 0, .bool false]) ∧ Below w.heap.size w w' := by
  have A0 : Below w.heap.size w w := Below.refl _ _
  have HR := Lib.hid (fun w' (hb : Below w.heap.size w w') => r6_right A n c ts w' (h.below hb))
  rw [hr] at HR
  clear h hr
  unfold Ou.cells
  go_enter Try.func22, Try.ntmps22
  go_wp2_with (fail)
  refine (HR.out _ (by (repeat (first | (with_reducible exact Below.refl _ _) | (with_reducible assumption) | (with_reducible refine Near.up _ ?_) | (with_reducible refine Below.drew ?_) | (with_reducible refine below_alloc_on ?_ _) | (with_reducible refine below_set_on ?_ (by first | (simp; done) | (simp; omega) | omega) _))))).mono ?_
  rintro e w1 ⟨rfl, hb⟩
  have A1 : Below w.heap.size w w1 := below_call (by (repeat (first | (with_reducible exact Below.refl _ _) | (with_reducible assumption) | (with_reducible refine Near.up _ ?_) | (with_reducible refine Below.drew ?_) | (with_reducible refine below_alloc_on ?_ _) | (with_reducible refine below_set_on ?_ (by first | (simp; done) | (simp; omega) | omega) _)))) hb
  go_wp2
  exact bodyPost_ret (v := .tuple #[.slice none 0 0, .bool false]) (by simp [results, Try.results22, go_sem]) rfl ⟨rfl, A1⟩
theorem mo_run_no (A : Option Addr) (n c : Nat) (ts : Nat → Tm) (B : Option Addr) (m d : Nat) (w : World) (h : Terms w A n ts) (hr : rtB ts n = false) (hm : m ≤ 100000) :
    Calls Try.prog 24 #[.slice A n c, .slice B m d] w fun e w' => ∃ g, e = .returned (.slice (some ⟨g, 0, none⟩) m m) ∧ Col w' g m (fun i => .bool false) ∧ Below w.heap.size w w' := by
  have A0 : Below w.heap.size w w := Below.refl _ _
  have HR := Lib.hid (fun w' (hb : Below w.heap.size w w') => fo_right A n c ts w' (h.below hb))
  rw [hr] at HR
  obtain ⟨j0, hj0, hy0, hy1, hy2⟩ := info_parts truth_info
  have hmt := fun w => run_make (P := Try.prog) w 46 4 j0 _ Try.underlying46 hj0 hy0 .i64 .i64 m m (by omega) (by omega) (by rw [hy2]; omega) (by omega)
  simp only [hy1, Int.toNat_natCast, Nat.mul_one, show (Value.bool false).cells = #[.bool false] from rfl] at hmt
  have C1 := col_new w m (.bool false) 4
  have A1 := below_alloc_on (Below.refl w.heap.size w) (.cells (madeCells #[.bool false] m) 4)
  clear h hr hy0 hy1 hy2 hj0 A0
  go_enter Try.func24, Try.ntmps24
  go_wp2_with (fail)
  refine (HR.out _ A1).mono ?_
  rintro e w2 ⟨rfl, hb⟩
  have A2 := below_call A1 hb
  have HC := Lib.hid (C1.below hb)
  clear hb A1 C1 hmt
  go_wp2
  all_goals go_ret
  all_goals exact ⟨_, rfl, HC.out, A2⟩
def noL (k : Nat) : List Bool := (List.range k).map (fun _ => false)
set_option maxHeartbeats 2000000 in
theorem r8_run_no (A : Option Addr) (n c : Nat) (ts : Nat → Tm) (B : Option Addr) (m d : Nat) (w : World) (h : Terms w A n ts) (hr : rtB ts n = false) (hm : m ≤ 100000) :
    Calls Try.prog 25 #[.slice A n c, .slice B m d] w fun e w' => ∃ P f, e = .returned (.slice P m f) ∧ Truths w' P m (noL m) ∧ Below w.heap.size w w' := by
  have A0 : Below w.heap.size w w := Below.refl _ _
  have HN := Lib.hid (r8_new_no A n c ts w h hr)
  clear h hr
  go_enter Try.func25, Try.ntmps25
  go_wp2_with (fail)
  refine HN.out.mono ?_
  rintro e w1 ⟨rfl, hb⟩
  have A1 := below_call A0 hb
  clear hb HN A0
  go_wp2
  go_loopg [5, 7, 17] m (fun gk z x i wr => ∃ k : Nat, k ≤ m ∧ gk = m - k ∧ i = .int .i64 k ∧ z = .slice none 0 0 ∧ GrownT w1 (noL k) x wr)
  case atStart => exact ⟨0, by omega, rfl, rfl, rfl, GrownT.nil w1⟩
  case round =>
    obtain ⟨k, hk, rfl, rfl, rfl, hd⟩ := hrel
    by_cases hlt : k < m
    · have HNX := Lib.hid (show noL (k + 1) = noL k ++ [false] by simp [noL, List.range_succ])
      have hll : (noL k).length ≤ 17592186044414 := by simp [noL]; omega
      have hsz := hd.2.2.size
      have HG := Lib.hid hd
      have HO := Lib.hid hd.2.1
      clear hd
      generalize noL k = L at *
      go_wp2_with (at_builtin; refine app_truth rfl _ _ rfl false rfl rfl HO.out hsz hll ?_)
      intro v' w4 h1 h2
      have G3 := Lib.hid (HG.out.next h1 h2)
      clear h1 h2 HG HO
      go_wp2
      go_roundg (m - (k + 1))
      case measure => omega
      case rel => exact ⟨k + 1, by omega, by omega, by go_num, rfl, by rw [HNX.out]; exact G3.out⟩
    · obtain rfl : k = m := by omega
      have ha := hd.2.1
      have A2 := below_call A1 hd.2.2
      have hl : (noL k).length = k := by simp [noL]
      rw [hl] at ha
      obtain ⟨P, f, hP, hle⟩ := own_formT ha
      subst hP
      have HX := Lib.hid (Truths.of_own ha hl)
      clear ha hd
      go_wp2
      all_goals go_ret
      all_goals exact ⟨P, f, rfl, HX.out, A2⟩
end Go.Proofs.Ytngmggccijmhfaa
