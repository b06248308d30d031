/- Contracts of package record. -/
import Derived.Test.YtknhejpomemilaaTakes
import Derived.Test.YtknhejpomemilaaBox
import Derived.Laws.Entries
namespace Go.Proofs.Ytknhejpomemilaa
set_option maxRecDepth 100000
open Go.RowKit Ieee
set_option linter.unusedVariables false
set_option linter.unusedSimpArgs false

theorem run_store_real (P : Program) (w : World) (a : Addr) (m : Mode) (k : FloatKind) (b : Nat) : (store a (.float k b) m).run P w = stored P w a (.float k b) m := run_store P w a _ m rfl
attribute [local go_sem] run_store_real

def upB (n most : Int) : Bool := decide (0 ≤ n ∧ n ≤ most)
def kyV (k : Int) : Int := if upB k 10 = true then k else 0
def mkV (b : Bool) (bit : Int) : Int := if b = true then bit else 0
def badV (a t b e k : Bool) : Int := mkV a 1 + mkV t 2 + mkV b 4 + mkV e 8 + mkV k 16
def clnB (a t b e k z : Int) : Bool := upB a 4095 && upB t 180 && upB b 6000 && upB e 300 && upB k 10 && upB z 31
theorem mk_bd (b : Bool) {bit : Int} (h : 0 ≤ bit) : 0 ≤ mkV b bit ∧ mkV b bit ≤ bit := by unfold mkV; split <;> omega

theorem rc_upto (n most : Int) (w : World) : Calls Try.prog 54 #[.int .i64 n, .int .i64 most] w fun e w' => e = .returned (.bool (upB n most)) ∧ w = w' := by
  unfold upB
  go_enter Try.func54, Try.ntmps54
  go_wp2
  all_goals go_ret
  all_goals exact ⟨ret_b (by simp_all <;> omega), rfl⟩
theorem rc_iskey (n : Int) (w : World) : Calls Try.prog 53 #[.int .i64 n] w fun e w' => e = .returned (.bool (upB n 10)) ∧ w = w' := by
  go_enter Try.func53, Try.ntmps53
  go_wp2_with (go_at_call 54; refine (rc_upto _ _ _).mono ?_; rintro e w' ⟨rfl, rfl⟩)
  all_goals go_ret
  all_goals exact ⟨rfl, rfl⟩
theorem rc_takekey (n : Int) (w : World) : Calls Try.prog 32 #[.int .i64 n] w fun e w' => e = .returned (.tuple #[.int .i64 (kyV n), .bool (!upB n 10)]) ∧ w = w' := by
  unfold kyV
  have h := fun w => rc_iskey n w
  generalize upB n 10 = q at *
  cases q
  all_goals
    have HK := Lib.hid h
    clear h
    go_enter Try.func32, Try.ntmps32
    go_wp2_with (go_at_call 53; refine (HK.out _).mono ?_; rintro e w' ⟨rfl, rfl⟩)
    all_goals go_ret2
    all_goals exact ⟨rfl, rfl⟩
theorem rc_mark (b : Bool) (bit : Int) (w : World) : Calls Try.prog 33 #[.bool b, .int .i64 bit] w fun e w' => e = .returned (.int .i64 (mkV b bit)) ∧ w = w' := by
  unfold mkV
  cases b
  all_goals
    go_enter Try.func33, Try.ntmps33
    go_wp2
    all_goals go_ret
    all_goals exact ⟨rfl, rfl⟩

set_option maxRecDepth 100000 in
theorem rc_take (a t b e : Nat) (d : Bool) (k : Int) (z : Bool) (w : World) :
    Calls Try.prog 12 #[.agg #[.float .f64 a, .float .f64 t, .float .f64 b, .float .f64 e, .bool d, .int .i64 k, .bool z]] w fun x w' =>
      x = .returned (.agg #[.int .i64 (tkV a 0 4095), .int .i64 (tkV t 0 180), .int .i64 (tkV b 0 6000), .int .i64 (tkV e 0 300), .bool d, .int .i64 (kyV k), .bool z,
        .int .i64 (badV (tkB a 0 4095) (tkB t 0 180) (tkB b 0 6000) (tkB e 0 300) (!upB k 10))]) ∧ Below w.heap.size w w' := by
  have h1 := fun w => r_take a 0 4095 w
  have h2 := fun w => r_take t 0 180 w
  have h3 := fun w => r_take b 0 6000 w
  have h4 := fun w => r_take e 0 300 w
  have h5 := fun w => rc_takekey k w
  generalize tkV a 0 4095 = A at *
  generalize tkB a 0 4095 = pA at *
  generalize tkV t 0 180 = T at *
  generalize tkB t 0 180 = pT at *
  generalize tkV b 0 6000 = B at *
  generalize tkB b 0 6000 = pB at *
  generalize tkV e 0 300 = E at *
  generalize tkB e 0 300 = pE at *
  generalize kyV k = K at *
  generalize (!upB k 10) = pK at *
  have ⟨m1, n1⟩ := mk_bd pA (bit := 1) (by omega)
  have ⟨m2, n2⟩ := mk_bd pT (bit := 2) (by omega)
  have ⟨m3, n3⟩ := mk_bd pB (bit := 4) (by omega)
  have ⟨m4, n4⟩ := mk_bd pE (bit := 8) (by omega)
  have ⟨m5, n5⟩ := mk_bd pK (bit := 16) (by omega)
  unfold badV
  have H1 := Lib.hid h1
  have H2 := Lib.hid h2
  have H3 := Lib.hid h3
  have H4 := Lib.hid h4
  have H5 := Lib.hid h5
  clear h1 h2 h3 h4 h5
  go_enter Try.func12, Try.ntmps12
  go_wp2_with (first
    | (go_at_call 31; ((with_reducible refine (H1.out _).mono ?_)); rintro x w' ⟨rfl, rfl⟩)
    | (go_at_call 31; ((with_reducible refine (H2.out _).mono ?_)); rintro x w' ⟨rfl, rfl⟩)
    | (go_at_call 31; ((with_reducible refine (H3.out _).mono ?_)); rintro x w' ⟨rfl, rfl⟩)
    | (go_at_call 31; ((with_reducible refine (H4.out _).mono ?_)); rintro x w' ⟨rfl, rfl⟩)
    | (go_at_call 32; refine (H5.out _).mono ?_; rintro x w' ⟨rfl, rfl⟩)
    | (go_at_call 33; refine (rc_mark _ _ _).mono ?_; rintro x w' ⟨rfl, rfl⟩))
  exact bodyPost_ret (v := .agg #[.int .i64 A, .int .i64 T, .int .i64 B, .int .i64 E, .bool d, .int .i64 K, .bool z, .int .i64 (mkV pA 1 + mkV pT 2 + mkV pB 4 + mkV pE 8 + mkV pK 16)])
    (by simp [results, Try.results12, go_sem]) rfl ⟨rfl, by (repeat (first | (with_reducible exact Below.refl _ _) | (with_reducible assumption) | (with_reducible refine Near.up _ ?_) | (with_reducible refine Below.drew ?_) | (with_reducible refine below_alloc_on ?_ _) | (with_reducible refine below_set_on ?_ (by first | (simp; done) | (simp; omega) | omega) _)))⟩

theorem rc_clean (a t b e : Int) (d : Bool) (k : Int) (z : Bool) (o : Int) (w : World) :
    Calls Try.prog 34 #[.agg #[.int .i64 a, .int .i64 t, .int .i64 b, .int .i64 e, .bool d, .int .i64 k, .bool z, .int .i64 o]] w fun x w' =>
      x = .returned (.bool (clnB a t b e k o)) ∧ Below w.heap.size w w' := by
  have h1 := fun w => rc_upto a 4095 w
  have h2 := fun w => rc_upto t 180 w
  have h3 := fun w => rc_upto b 6000 w
  have h4 := fun w => rc_upto e 300 w
  have h5 := fun w => rc_iskey k w
  have h6 := fun w => rc_upto o 31 w
  unfold clnB
  generalize upB a 4095 = q1 at *
  generalize upB t 180 = q2 at *
  generalize upB b 6000 = q3 at *
  generalize upB e 300 = q4 at *
  generalize upB k 10 = q5 at *
  generalize upB o 31 = q6 at *
  have H1 := Lib.hid h1
  have H2 := Lib.hid h2
  have H3 := Lib.hid h3
  have H4 := Lib.hid h4
  have H5 := Lib.hid h5
  have H6 := Lib.hid h6
  clear h1 h2 h3 h4 h5 h6
  go_enter Try.func34, Try.ntmps34
  go_wp2_with (first
    | (go_at_call 54; ((with_reducible refine (H1.out _).mono ?_)); rintro x w' ⟨rfl, rfl⟩)
    | (go_at_call 54; ((with_reducible refine (H2.out _).mono ?_)); rintro x w' ⟨rfl, rfl⟩)
    | (go_at_call 54; ((with_reducible refine (H3.out _).mono ?_)); rintro x w' ⟨rfl, rfl⟩)
    | (go_at_call 54; ((with_reducible refine (H4.out _).mono ?_)); rintro x w' ⟨rfl, rfl⟩)
    | (go_at_call 53; refine (H5.out _).mono ?_; rintro x w' ⟨rfl, rfl⟩)
    | (go_at_call 54; ((with_reducible refine (H6.out _).mono ?_)); rintro x w' ⟨rfl, rfl⟩))
  all_goals go_ret
  all_goals exact ⟨ret_b (by simp_all), by (repeat (first | (with_reducible exact Below.refl _ _) | (with_reducible assumption) | (with_reducible refine Near.up _ ?_) | (with_reducible refine Below.drew ?_) | (with_reducible refine below_alloc_on ?_ _) | (with_reducible refine below_set_on ?_ (by first | (simp; done) | (simp; omega) | omega) _)))⟩
end Go.Proofs.Ytknhejpomemilaa
