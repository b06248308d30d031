/- Contracts of holds.truths and holds.Holds. -/
import Derived.Test.YtmemhlhjkpijpaaHolI3
import Derived.Test.YtmemhlhjkpijpaaHolI5
import Derived.Test.YtmemhlhjkpijpaaHolI6
import Derived.Test.YtmemhlhjkpijpaaHolI7
import Derived.Test.YtmemhlhjkpijpaaHolI8
import Derived.Test.YtmemhlhjkpijpaaHolI9
namespace Go.Proofs.Ytmemhlhjkpijpaa
open Go.RowKit
set_option linter.unusedVariables false
set_option linter.unusedSimpArgs false
set_option maxRecDepth 100000
attribute [local go_sem] cell_set_ite Near.cell Near.frozen

theorem ho_truths (os : Nat → Ou) (n : Nat) (hn : n ≤ 100000) : ∀ (m : Mn) (B : Option Addr) (d : Nat) (w : World), Outs w B n os → Calls Try.prog 17 #[m.val, .slice B n d] w (ListR n (fun i => .bool (soM os m i)) w)
  | .whole, B, d, w, h => tru_whole B n d os hn w h
  | .atom a b, B, d, w, h => tru_atom a b B n d os hn w h
  | .hazard a, B, d, w, h => tru_hazard a B n d os hn w h
  | .not a, B, d, w, h => tru_not a B n d os hn w h (fun B d w h => ho_truths os n hn a B d w h)
  | .both a b, B, d, w, h => tru_both a b B n d os hn w h (fun B d w h => ho_truths os n hn a B d w h) (fun B d w h => ho_truths os n hn b B d w h)
  | .either a b, B, d, w, h => tru_either a b B n d os hn w h (fun B d w h => ho_truths os n hn a B d w h) (fun B d w h => ho_truths os n hn b B d w h)
  | .once a k, B, d, w, h => tru_once a k B n d os hn w h (fun B d w h => ho_truths os n hn a B d w h)
  | .always a k, B, d, w, h => tru_always a k B n d os hn w h (fun B d w h => ho_truths os n hn a B d w h)
  | .since a b, B, d, w, h => tru_since a b B n d os hn w h (fun B d w h => ho_truths os n hn a B d w h) (fun B d w h => ho_truths os n hn b B d w h)

theorem Outs.first {w : World} {B : Option Addr} {m k : Nat} {os : Nat → Ou} (h : Outs w B m os) (hk : k ≤ m) : Outs w B k os := fun h0 => by
  obtain ⟨b, off, e, hl, hc⟩ := h (by omega)
  exact ⟨b, off, e, hl, fun i hi => hc i (by omega)⟩
set_option maxHeartbeats 4000000 in
theorem ho_holds_in (A B : Option Addr) (n c m d k : Nat) (ts : Nat → Tm) (os : Nat → Ou) (w : World) (h : Terms w A n ts) (hc : n ≤ c) (ho : Outs w B m os) (hm : m ≤ 100000) (hd : m ≤ d) (hk : k < m) (hr : rtB ts n = true) :
    Calls Try.prog 11 #[.slice A n c, .slice B m d, .int .i64 (k : Int)] w fun e w' => e = .returned (.bool (soM os (mnF ts n) k)) ∧ Below w.heap.size w w' := by
  have A0 : Below w.heap.size w w := Below.refl _ _
  have HR := Lib.hid (fun w' (hb : Below w.heap.size w w') => fo_right A n c ts w' (h.below hb))
  have HM := Lib.hid (fun w' (hb : Below w.heap.size w w') => ho_meant n A n c ts w' (Nat.le_refl _) (h.below hb) hr hc)
  have HT := Lib.hid (fun w' (hb : Below w.heap.size w w') => ho_truths os (k + 1) (by omega) (mnF ts n) B d w' ((ho.first hk).below hb))
  rw [hr] at HR
  have wk : IntKind.i64.wrap ((k : Int) + 1) = (k : Int) + 1 := by rw [IntKind.wrap_i64]; omega
  have k1 : (k : Int) < (m : Int) := by omega
  have k2 : (k : Int) + 1 ≤ (d : Int) := by omega
  have k3 : ((k : Int) + 1).toNat = k + 1 := by omega
  have k4 : (0 : Int) ≤ (k : Int) + 1 := by omega
  have k5 : (k : Int) < ((k + 1 : Nat) : Int) := by omega
  have k7 : (k : Int) < (k : Int) + 1 := by omega
  have k6 : decide ((m : Int) ≤ (k : Int)) = false := decide_eq_false (by omega)
  clear h ho hr
  go_enter Try.func11, Try.ntmps11
  go_wp2_with (fail)
  refine (HR.out _ A0).mono ?_
  rintro e w1 ⟨rfl, hb⟩
  have A1 := below_call A0 hb
  clear hb A0 HR
  obtain ⟨M, hM⟩ : ∃ M, mnF ts n = M := ⟨_, rfl⟩
  rw [hM] at HM HT
  have HMM := Lib.hid hM
  clear hM
  go_wp2_with (fail)
  go_region_law (first
    | ((go_simp; go_at_call 18; refine (HM.out _ (A1.drew)).mono ?_; rintro e w2 ⟨rfl, hb⟩; (have A2 := below_call A1.drew hb); clear hb))
    | ((go_simp; go_at_call 17; refine (HT.out _ A2).mono ?_; rintro e w3 ⟨g, rfl, C, hg, hb⟩; (have A3 := Lib.hid (below_call A2 hb)); (have c0 := C.cell k (by omega)); (have lg := C.lt); clear hb C hg)))
  all_goals
    clear HT HM k1 k2 k3 k4 k5 k6 k7 wk
    go_wp2_with (fail)
    all_goals go_ret
    all_goals exact ⟨by rw [HMM.out]; rfl, A3.out⟩
/-- Where there is no formula, or no such place. -/
theorem ho_holds_no (A B : Option Addr) (n c m d : Nat) (at_ : Int) (ts : Nat → Tm) (w : World) (h : Terms w A n ts) (hr : rtB ts n = false) :
    Calls Try.prog 11 #[.slice A n c, .slice B m d, .int .i64 at_] w fun e w' => e = .returned (.bool false) ∧ Below w.heap.size w w' := by
  have HR := Lib.hid (fo_right A n c ts w h)
  rw [hr] at HR
  clear h hr
  go_enter Try.func11, Try.ntmps11
  go_wp2_with (fail)
  refine HR.out.mono ?_
  rintro e w1 ⟨rfl, hb⟩
  go_wp2_with (fail)
  all_goals go_ret
  all_goals exact ⟨rfl, hb⟩
theorem ho_holds_out (A B : Option Addr) (n c m d : Nat) (at_ : Int) (ts : Nat → Tm) (w : World) (h : Terms w A n ts) (hat : at_ < 0 ∨ (m : Int) ≤ at_) :
    Calls Try.prog 11 #[.slice A n c, .slice B m d, .int .i64 at_] w fun e w' => e = .returned (.bool false) ∧ Below w.heap.size w w' := by
  cases hr : rtB ts n
  · exact ho_holds_no A B n c m d at_ ts w h hr
  have HR := Lib.hid (fo_right A n c ts w h)
  rw [hr] at HR
  clear h hr
  by_cases h0 : at_ < 0
  · have t0 := decide_eq_true h0
    clear hat h0
    go_enter Try.func11, Try.ntmps11
    go_wp2_with (fail)
    refine HR.out.mono ?_
    rintro e w1 ⟨rfl, hb⟩
    go_wp2_with (fail)
    all_goals go_ret
    all_goals exact ⟨rfl, hb⟩
  · have t0 := decide_eq_false h0
    have t1 : decide ((m : Int) ≤ at_) = true := decide_eq_true (by omega)
    clear hat h0
    go_enter Try.func11, Try.ntmps11
    go_wp2_with (fail)
    refine HR.out.mono ?_
    rintro e w1 ⟨rfl, hb⟩
    go_wp2_with (fail)
    all_goals go_ret
    all_goals exact ⟨rfl, hb⟩
end Go.Proofs.Ytmemhlhjkpijpaa
