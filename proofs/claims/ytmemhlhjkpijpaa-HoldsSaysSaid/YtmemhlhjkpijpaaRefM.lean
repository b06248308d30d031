/- The document's answer: whether a formula is so in a place. -/
import Derived.Test.YtmemhlhjkpijpaaRefL
namespace Go.Proofs.Ytmemhlhjkpijpaa
open Go.RowKit
set_option linter.unusedVariables false
set_option linter.unusedSimpArgs false
set_option maxRecDepth 100000
attribute [local go_sem] cell_set_ite Near.cell Near.frozen

set_option maxHeartbeats 2000000 in
theorem r7_holds_in (A B : Option Addr) (n c m d k : Nat) (ts : Nat → Tm) (os : Nat → Ou) (w : World) (h : Terms w A n ts) (hc : n ≤ c) (ho : Outs w B m os) (hm : m ≤ 100000) (hk : k < m) (hr : rtB ts n = true) :
    Calls Try.prog 12 #[.slice A n c, .slice B m d, .int .i64 (k : Int)] w fun e w' => e = .returned (.bool (soM os (mnF ts n) k)) ∧ Below w.heap.size w w' := by
  have A0 : Below w.heap.size w w := Below.refl _ _
  have HR := Lib.hid (fun w' (hb : Below w.heap.size w w') => r6_right A n c ts w' (h.below hb))
  have HA := Lib.hid (fun w' (hb : Below w.heap.size w w') => r7_all os m d B hm n A n c ts w' (Nat.le_refl _) (h.below hb) hr hc (ho.below hb))
  rw [hr] at HR
  have k1 : (k : Int) < (m : Int) := by omega
  have k6 : decide ((m : Int) ≤ (k : Int)) = false := decide_eq_false (by omega)
  obtain ⟨f, hf⟩ : ∃ f, soM os (mnF ts n) = f := ⟨_, rfl⟩
  rw [hf] at HA
  have HF := Lib.hid hf
  clear h ho hr hf
  go_enter Try.func12, Try.ntmps12
  go_wp2_with (fail)
  refine (HR.out _ A0).mono ?_
  rintro e w1 ⟨rfl, hb⟩
  have A1 := below_call A0 hb
  clear hb A0 HR
  go_wp2_with (fail)
  refine (HA.out _ A1).mono ?_
  rintro e w2 ⟨P, pd, rfl, hV, hP, hb⟩
  have A2 := below_call A1 hb
  obtain ⟨q, qo, rfl, lq, hq⟩ := hV (by omega)
  have q0 : w2.cell? ⟨q, qo + k, none⟩ = some (.bool (f k)) := hq k hk
  clear hb A1 HA hV hP hq
  go_wp2_with (fail)
  all_goals go_ret
  all_goals exact ⟨by rw [HF.out]; rfl, A2⟩
theorem r7_holds_no (A B : Option Addr) (n c m d : Nat) (at_ : Int) (ts : Nat → Tm) (w : World) (h : Terms w A n ts) (hr : rtB ts n = false) :
    Calls Try.prog 12 #[.slice A n c, .slice B m d, .int .i64 at_] w fun e w' => e = .returned (.bool false) ∧ Below w.heap.size w w' := by
  have HR := Lib.hid (r6_right A n c ts w h)
  rw [hr] at HR
  clear h hr
  go_enter Try.func12, Try.ntmps12
  go_wp2_with (fail)
  refine HR.out.mono ?_
  rintro e w1 ⟨rfl, hb⟩
  go_wp2_with (fail)
  all_goals go_ret
  all_goals exact ⟨rfl, hb⟩
theorem r7_holds_out (A B : Option Addr) (n c m d : Nat) (at_ : Int) (ts : Nat → Tm) (w : World) (h : Terms w A n ts) (hat : at_ < 0 ∨ (m : Int) ≤ at_) :
    Calls Try.prog 12 #[.slice A n c, .slice B m d, .int .i64 at_] w fun e w' => e = .returned (.bool false) ∧ Below w.heap.size w w' := by
  cases hr : rtB ts n
  · exact r7_holds_no A B n c m d at_ ts w h hr
  have HR := Lib.hid (r6_right A n c ts w h)
  rw [hr] at HR
  clear h hr
  by_cases h0 : at_ < 0
  · have t0 := decide_eq_true h0
    clear hat h0
    go_enter Try.func12, Try.ntmps12
    go_wp2_with (fail)
    refine HR.out.mono ?_
    rintro e w1 ⟨rfl, hb⟩
    go_wp2_with (fail)
    all_goals go_ret
    all_goals exact ⟨rfl, hb⟩
  · have t0 := decide_eq_false h0
    have t1 : decide ((m : Int) ≤ at_) = true := decide_eq_true (by omega)
    clear hat h0
    go_enter Try.func12, Try.ntmps12
    go_wp2_with (fail)
    refine HR.out.mono ?_
    rintro e w1 ⟨rfl, hb⟩
    go_wp2_with (fail)
    all_goals go_ret
    all_goals exact ⟨rfl, hb⟩
end Go.Proofs.Ytmemhlhjkpijpaa
