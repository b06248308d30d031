/- Contracts of package spec: drops. -/
import Derived.Test.YtmgbegmhanbcnaaSpecN
import Derived.Test.YtmgbegmhanbcnaaTri
namespace Go.Proofs.Ytmgbegmhanbcnaa
open Go.RowKit
set_option linter.unusedVariables false
set_option linter.unusedSimpArgs false
set_option maxRecDepth 100000
attribute [local go_sem] cell_set_ite Near.cell Near.frozen

theorem sp_rests (A : Option Addr) (m c : Nat) (ds : List Int) (t : Int) (w : World) (h : Ints w A m ds) (hm : m ≤ 100000) (t0 : 0 ≤ t) (t1 : t ≤ 100000) (l0 : -9 ≤ laD ds) (l1 : laD ds ≤ t) :
    Calls Try.prog 23 #[.slice A m c, .int .i64 t] w fun e w' => e = .returned (.bool (rsB ds t)) ∧ w = w' := by
  cases m with
  | zero =>
    have hl : ds.length = 0 := h.1
    have hv : rsB ds t = false := by
      unfold rsB laD
      rw [if_pos hl]; exact decide_eq_false (by omega)
    rw [hv]
    clear h hl hv l0 l1
    go_enter Try.func23, Try.ntmps23
    go_wp2
    all_goals go_ret
    all_goals exact ⟨rfl, rfl⟩
  | succ q =>
    obtain ⟨b, off, rfl, hb, hcc⟩ := h.2 (by omega)
    have hc := hcc q (by omega)
    clear hcc
    have hl : ds.length = q + 1 := h.1
    have hv : laD ds = ds.getD q 0 := by
      unfold laD
      rw [if_neg (by omega), hl]; rfl
    have t2 : decide ((0 : Int) < (q : Int) + 1) = true := decide_eq_true (by omega)
    unfold rsB
    rw [hv] at l0 l1 ⊢
    generalize ds.getD q 0 = l at *
    clear h hl hv
    obtain ⟨D, hD⟩ : ∃ D, t - l = D := ⟨_, rfl⟩
    have wD : IntKind.i64.wrap (t - l) = D := by rw [IntKind.wrap_i64]; omega
    go_enter Try.func23, Try.ntmps23
    go_wp2
    all_goals go_ret
    all_goals exact ⟨ret_b (by first | rfl | (rw [hD])), rfl⟩

theorem drops_no {xs : List Int} {k : Nat} (h : gzD (gzAt xs k) (xs.getD k 0) = false) : dropsL xs (k + 1) = dropsL xs k := by
  show (if gzD (gzAt xs k) (xs.getD k 0) = true then dropsL xs k ++ [(k : Int)] else dropsL xs k) = _
  rw [h]; rfl
theorem drops_yes {xs : List Int} {k : Nat} (h : gzD (gzAt xs k) (xs.getD k 0) = true) : dropsL xs (k + 1) = dropsL xs k ++ [(k : Int)] := by
  show (if gzD (gzAt xs k) (xs.getD k 0) = true then dropsL xs k ++ [(k : Int)] else dropsL xs k) = _
  rw [if_pos h]
theorem Col.of_block {w w' : World} {g n : Nat} {F : Nat → Value} (h : Col w g n F) (e : w'.heap[g]? = w.heap[g]?) : Col w' g n F := by
  refine ⟨?_, fun i hi => ?_, fun i => ?_⟩
  · have h1 := h.lt
    rw [Array.getElem?_eq_getElem h1] at e
    exact (Array.getElem?_eq_some_iff.1 e).1
  · rw [← h.cell i hi]; unfold World.cell?; rw [e]
  · rw [← h.frz i]; unfold World.frozen?; rw [e]
theorem Col.grown {w1 wr : World} {g n : Nat} {F : Nat → Value} {v : Value} {o : Obj} (h : Col wr g n F) (hv : v.ownBlock ≠ some g) (hg : (wr.alloc o).grownBy w1 v.ownBlock) : Col w1 g n F :=
  (h.alloc o).of_block (hg.block g (by have := h.lt; simp; omega) (fun e => hv e.symm))
set_option maxHeartbeats 2000000 in
theorem sp_drops (A : Option Addr) (n c : Nat) (xs : List Int) (w : World) (h : Ints w A n xs) (hn : n ≤ 100000) :
    Calls Try.prog 6 #[.slice A n c] w fun e w' => ∃ B d, e = .returned (.slice B (dropsL xs n).length d) ∧ (dropsL xs n).length ≤ d ∧ Ints w' B (dropsL xs n).length (dropsL xs n) ∧ Below w.heap.size w w' := by
  have HI := Lib.hid h
  have G1 := Grown.empty w
  have H1 := Lib.hid (sp_shades A n c xs _ (h.below (below_alloc_on (Below.refl w.heap.size w) (.cells #[] 3))) hn)
  clear h
  go_enter Try.func6, Try.ntmps6
  go_wp2_with (fail)
  have s1 : w.heap.size + 1 = (w.alloc (.cells #[] 3)).heap.size := by simp
  generalize w.alloc (.cells #[] 3) = w1 at *
  refine H1.out.mono ?_
  rintro e w2 ⟨f0, rfl, C2, hb⟩
  have G2 := G1.below hb
  have s2 : w.heap.size + 1 ≤ w2.heap.size := by have := hb.size; omega
  clear hb G1 H1
  go_wp2_with (fail)
  refine (sp_firms _ n n _ w2 C2.truths hn).mono ?_
  rintro e w3 ⟨f, rfl, wf, C3, hb⟩
  have G3 := G2.below hb
  have nf : (Value.slice (some ⟨w.heap.size, 0, none⟩) 0 0).ownBlock ≠ some f := fun e => by
    have : w.heap.size = f := by injection e
    omega
  clear hb C2 G2 s1 s2 wf
  have C4 := C3.congr (G := fun i => .bool (gzAt xs (i + 1)).on) (fun i hi => by rw [firm_on xs n hn i hi])
  clear C3
  go_wp2
  go_loopg [3, 4, 12] n (fun gk v x i wr => ∃ k : Nat, k ≤ n ∧ gk = n - k ∧ i = .int .i64 k ∧ x = .bool (gzAt xs k).on ∧ Grown w (dropsL xs k) v wr ∧ Col wr f n (fun i => .bool (gzAt xs (i + 1)).on) ∧ v.ownBlock ≠ some f)
  case atStart => exact ⟨0, by omega, rfl, rfl, rfl, G3, C4, nf⟩
  case round =>
    clear G3 C4 nf
    obtain ⟨k, hk, rfl, rfl, rfl, G1, C1, nf⟩ := hrel
    by_cases hlt : k < n
    · have hdf := drop_form xs k (by omega)
      have hbd := laD_bd xs k
      obtain ⟨B, d, rfl, hd, hints⟩ := G1.form
      have HR := Lib.hid (sp_rests B _ d (dropsL xs k) k wr hints (by have := dropsL_len xs k; omega) (by omega) (by omega) hbd.1 hbd.2)
      have c0 := C1.cell k hlt
      have fC := C1.frz
      have lC := C1.lt
      have HC := Lib.hid C1
      have HG := Lib.hid G1
      have HO := Lib.hid G1.2.1
      have hsz := G1.2.2.size
      have hll : (dropsL xs k).length ≤ 17592186044414 := by have := dropsL_len xs k; omega
      have HY := Lib.hid (fun h => drops_yes (xs := xs) (k := k) h)
      have HN := Lib.hid (fun h => drops_no (xs := xs) (k := k) h)
      obtain ⟨ON, hON⟩ : ∃ ON, (gzAt xs (k + 1)).on = ON := ⟨_, rfl⟩
      have HON := Lib.hid hON
      rw [hON] at hdf
      simp only [hON] at c0
      generalize gzD (gzAt xs k) (xs.getD k 0) = dr at *
      generalize rsB (dropsL xs k) k = r at *
      generalize (gzAt xs k).on = was at *
      generalize dropsL xs k = ds at *
      clear hON hints C1 G1 hbd
      cases ON
      · obtain rfl : dr = false := by rw [hdf]; rfl
        have HE := Lib.hid (HN.out rfl)
        clear hdf HY HN HR
        go_wp2
        go_roundg (n - (k + 1))
        case measure => omega
        case rel => exact ⟨k + 1, by omega, by omega, by go_num, by rw [HON.out], by rw [HE.out]; exact HG.out, HC.out, nf⟩
      · cases was
        · cases r
          · obtain rfl : dr = true := by rw [hdf]; rfl
            have HE := Lib.hid (HY.out rfl)
            clear hdf HY HN
            go_wp2_with (first | (go_at_call 23; refine HR.out.mono ?_; rintro e w' ⟨rfl, rfl⟩) | (at_builtin; refine app_int_at rfl _ _ rfl _ rfl rfl HO.out hsz hll ?_))
            intro v' w4 h1 h2 h3
            have HG4 := Lib.hid (HG.out.next h1 h2)
            have HC4 := Lib.hid (HC.out.grown nf h2)
            have nf4 := moved_ne nf h3 (by omega)
            clear h1 h2 h3 HG HC nf HO HR
            go_wp2
            go_roundg (n - (k + 1))
            case measure => omega
            case rel => exact ⟨k + 1, by omega, by omega, by go_num, by rw [HON.out], by rw [HE.out]; exact HG4.out, HC4.out, nf4⟩
          · obtain rfl : dr = false := by rw [hdf]; rfl
            have HE := Lib.hid (HN.out rfl)
            clear hdf HY HN
            go_wp2_with (go_at_call 23; refine HR.out.mono ?_; rintro e w' ⟨rfl, rfl⟩)
            go_roundg (n - (k + 1))
            case measure => omega
            case rel => exact ⟨k + 1, by omega, by omega, by go_num, by rw [HON.out], by rw [HE.out]; exact HG.out, HC.out, nf⟩
        · obtain rfl : dr = false := by rw [hdf]; rfl
          have HE := Lib.hid (HN.out rfl)
          clear hdf HY HN HR
          go_wp2
          go_roundg (n - (k + 1))
          case measure => omega
          case rel => exact ⟨k + 1, by omega, by omega, by go_num, by rw [HON.out], by rw [HE.out]; exact HG.out, HC.out, nf⟩
    · obtain rfl : k = n := by omega
      obtain ⟨B, d, rfl, hd, hints⟩ := G1.form
      have HH := Lib.hid hints
      have hb := G1.2.2
      clear hints G1 C1
      go_wp2
      all_goals go_ret
      all_goals exact ⟨B, d, rfl, hd, HH.out, hb⟩
end Go.Proofs.Ytmgbegmhanbcnaa
