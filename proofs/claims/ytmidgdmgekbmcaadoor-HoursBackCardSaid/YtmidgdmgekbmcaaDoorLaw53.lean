/- What the laws of the hours read of the tables; the law package's awake. -/
import Derived.Test.YtmidgdmgekbmcaaDoorHrRef3
import Derived.LaidSub
namespace Go.Proofs.YtmidgdmgekbmcaaDoor
open Go.RowKit Go.Deep
set_option linter.unusedVariables false
set_option linter.unusedSimpArgs false
set_option maxRecDepth 100000
attribute [local go_sem] cell_set_ite Near.cell Near.frozen
attribute [-go_sem] run_string_add_if

theorem star_err : "*" ++ "errors.errorString" = "*errors.errorString" := by decide
theorem row_err (u : TypeId) (h : Tryd.prog.typeName? 3 u = some "*errors.errorString") : u = 72 :=
  typeName_ptr_named (nm := "errors.errorString") (by rw [star_err]; kernel_rfl) (by kernel_rfl) (by decide) u (by rw [star_err]; exact h)
theorem hr_tabs {W : World} {l : List (String × DataW Unit)} (h : laidMetH Tryd.prog l W)
    (e1 : l.filter (fun x => x.1 == "internal/strconv.uint64pow10") = [("internal/strconv.uint64pow10", Lib.tabData .u64 Lib.pow10Tab)])
    (e2 : l.filter (fun x => x.1 == "strconv.ErrSyntax") = [("strconv.ErrSyntax", .iface "*errors.errorString" (.ptr (.agg [.lit (.string [105, 110, 118, 97, 108, 105, 100, 32, 115, 121, 110, 116, 97, 120])])))])
    (e3 : l.filter (fun x => x.1 == "strconv.ErrRange") = [("strconv.ErrRange", .iface "*errors.errorString" (.ptr (.agg [.lit (.string [118, 97, 108, 117, 101, 32, 111, 117, 116, 32, 111, 102, 32, 114, 97, 110, 103, 101])])))]) : HrTab W ∧ HrErr W := by
  have h1 := laidMetH.filter (fun x => x.1 == "internal/strconv.uint64pow10") h
  have h2 := laidMetH.filter (fun x => x.1 == "strconv.ErrSyntax") h
  have h3 := laidMetH.filter (fun x => x.1 == "strconv.ErrRange") h
  rw [e1] at h1
  rw [e2] at h2
  rw [e3] at h3
  have g2 : Tryd.prog.globalNamed "strconv.ErrSyntax" = some 1 := by kernel_rfl
  have g3 : Tryd.prog.globalNamed "strconv.ErrRange" = some 2 := by kernel_rfl
  refine ⟨Lib.tabIs_of_head (g := 3) (by kernel_rfl) (by kernel_rfl) Tryd.underlying65 Tryd.underlying27 (by kernel_rfl) (by kernel_rfl) h1, ?_, ?_⟩
  · obtain ⟨a, s, hv, -, -, -⟩ := laid_sentinel (h2 : laidMet _ _ _) g2 (by kernel_rfl) Tryd.underlying34 row_err Tryd.underlying72 Tryd.underlying74 rfl rfl Tryd.underlying9 (by kernel_rfl) (by kernel_rfl)
    exact ⟨_, _, by simpa using World.var?_cell g2 hv 0⟩
  · obtain ⟨a, s, hv, -, -, -⟩ := laid_sentinel (h3 : laidMet _ _ _) g3 (by kernel_rfl) Tryd.underlying34 row_err Tryd.underlying72 Tryd.underlying74 rfl rfl Tryd.underlying9 (by kernel_rfl) (by kernel_rfl)
    exact ⟨_, _, by simpa using World.var?_cell g3 hv 0⟩

theorem tx_6203 : txL 6203 = [48, 58, 48, 49, 58, 48, 50, 46, 48, 51] := by
  unfold txL tailL
  simp only [two_is (show 6203 % 360000 / 6000 < 100 by omega), two_is (show 6203 % 6000 / 100 < 100 by omega), two_is (show 6203 % 100 < 100 by omega), Lib.decDigits_one (show 6203 / 360000 < 10 by omega)]
  decide
theorem tx_360000 : txL 360000 = [49, 58, 48, 48, 58, 48, 48, 46, 48, 48] := by
  unfold txL tailL
  simp only [two_is (show 360000 % 360000 / 6000 < 100 by omega), two_is (show 360000 % 6000 / 100 < 100 by omega), two_is (show 360000 % 100 < 100 by omega), Lib.decDigits_one (show 360000 / 360000 < 10 by omega)]
  decide
theorem no_00 (t : Nat) (h : t ≤ 1099511627776) : txL t ≠ [48, 48, 58, 48, 49, 58, 48, 50, 46, 48, 51] := by
  intro e
  obtain ⟨p1, p2, p3, p4⟩ := tx_parts t h
  rw [e] at p1 p2 p3 p4
  rw [show numV (hA [48, 48, 58, 48, 49, 58, 48, 50, 46, 48, 51]) = 0 by decide +kernel] at p1
  rw [show numV (hB [48, 48, 58, 48, 49, 58, 48, 50, 46, 48, 51]) = 1 by decide +kernel] at p2
  rw [show numV (hC [48, 48, 58, 48, 49, 58, 48, 50, 46, 48, 51]) = 2 by decide +kernel] at p3
  rw [show numV (hD [48, 48, 58, 48, 49, 58, 48, 50, 46, 48, 51]) = 3 by decide +kernel] at p4
  obtain rfl : t = 6203 := by omega
  rw [tx_6203] at e
  exact absurd e (by decide)
theorem no_60 (t : Nat) (h : t ≤ 1099511627776) : txL t ≠ [48, 58, 54, 48, 58, 48, 48, 46, 48, 48] := by
  intro e
  obtain ⟨p1, p2, p3, p4⟩ := tx_parts t h
  rw [e] at p1 p2 p3 p4
  rw [show numV (hB [48, 58, 54, 48, 58, 48, 48, 46, 48, 48]) = 60 by decide +kernel] at p2
  omega

set_option maxHeartbeats 2000000 in
theorem law53_awake (W : World) (T : HrTab W) (E : HrErr W) (w : World) (h : At W w) : Calls Tryd.prog 5 #[] w fun e w' => e = .returned (.bool true) ∧ At W w' := by
  have h1 := fun w h => hr_parse_yes W T E 6203 (by omega) w h
  rw [tx_6203] at h1
  have H1 : Hid (∀ w, At W w → Calls Tryd.prog 6 #[.string ⟨#[48, 58, 48, 49, 58, 48, 50, 46, 48, 51]⟩] w fun e w' => e = .returned (.tuple #[.int .i64 6203, .bool true]) ∧ At W w') := Lib.hid h1
  have H2 : Hid (∀ w, At W w → Calls Tryd.prog 6 #[.string ⟨#[48, 48, 58, 48, 49, 58, 48, 50, 46, 48, 51]⟩] w fun e w' => e = .returned (.tuple #[.int .i64 0, .bool false]) ∧ At W w') := Lib.hid (fun w h => hr_parse_no W T E _ (by simp) no_00 w h)
  have H3 : Hid (∀ w, At W w → Calls Tryd.prog 6 #[.string ⟨#[48, 58, 54, 48, 58, 48, 48, 46, 48, 48]⟩] w fun e w' => e = .returned (.tuple #[.int .i64 0, .bool false]) ∧ At W w') := Lib.hid (fun w h => hr_parse_no W T E _ (by simp) no_60 w h)
  have h4 := fun w h => hr_text W T 360000 w h
  rw [show ckN 360000 = 360000 from rfl, tx_360000] at h4
  have H4 : Hid (∀ w, At W w → Calls Tryd.prog 8 #[.int .i64 360000] w fun e w' => e = .returned (.string ⟨#[49, 58, 48, 48, 58, 48, 48, 46, 48, 48]⟩) ∧ At W w') := Lib.hid h4
  have H := Lib.hid h
  clear h h1 h4 T E
  go_enter Tryd.func5, Tryd.ntmps5
  go_wp2_with (fail)
  refine (H1.out _ H.out).mono ?_
  rintro e w1 ⟨rfl, a1⟩
  have A1 := Lib.hid a1
  clear a1
  go_wp2_with (fail)
  refine (H2.out _ A1.out).mono ?_
  rintro e w2 ⟨rfl, a2⟩
  have A2 := Lib.hid a2
  clear a2
  go_wp2_with (fail)
  refine (H3.out _ A2.out).mono ?_
  rintro e w3 ⟨rfl, a3⟩
  have A3 := Lib.hid a3
  clear a3
  go_wp2_with (fail)
  refine (H4.out _ A3.out).mono ?_
  rintro e w4 ⟨rfl, a4⟩
  have A4 := Lib.hid a4
  clear a4
  go_wp2
  go_ret
  exact ⟨rfl, A4.out⟩

/-- Is a text of bytes a time's? -/
theorem is_tx (l : List UInt8) : (∃ t, t ≤ 1099511627776 ∧ txL t = l) ∨ ∀ t, t ≤ 1099511627776 → txL t ≠ l := by
  by_cases h : ∃ t, t ≤ 1099511627776 ∧ txL t = l
  · exact .inl h
  · exact .inr fun t ht he => h ⟨t, ht, he⟩
end Go.Proofs.YtmidgdmgekbmcaaDoor
