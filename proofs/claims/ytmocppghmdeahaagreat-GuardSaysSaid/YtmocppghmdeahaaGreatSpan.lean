/- Contracts of package span: which times are within a span; how many; what is kept. -/
import Derived.Test.YtmocppghmdeahaaGreatRing
import Derived.Test.YtmocppghmdeahaaGreatGrown
import Derived.Deep.OwnRows
namespace Go.Proofs.YtmocppghmdeahaaGreat
set_option maxRecDepth 100000
open Go.RowKit
set_option linter.unusedVariables false
set_option linter.unusedSimpArgs false

/-- Is the time x within the span of the width up to now? -/
def inV (x now width : Int) : Bool := decide (subV now width < clV x ∧ clV x ≤ clV now)
def nearL (xs : List Int) (now width : Int) : List Int := xs.filter fun x => inV x now width
def cntI (xs : List Int) (now width : Int) : Int := ((nearL xs now width).length : Nat)
def overB (xs : List Int) (now width limit : Int) : Bool := decide (limit < cntI xs now width)

theorem near_step (xs : List Int) (now width : Int) (k : Nat) (hk : k < xs.length) : nearL (xs.take (k + 1)) now width = if inV (xs.getD k 0) now width = true then nearL (xs.take k) now width ++ [xs.getD k 0] else nearL (xs.take k) now width := by
  unfold nearL
  rw [List.take_add_one, List.filter_append, List.getElem?_eq_getElem hk]
  simp only [Option.toList_some, List.getD, List.getElem?_eq_getElem hk, Option.getD_some, List.filter_cons, List.filter_nil]
  split <;> simp
theorem near_le (xs : List Int) (now width : Int) : (nearL xs now width).length ≤ xs.length := List.length_filter_le _ _
theorem cnt_step (xs : List Int) (now width : Int) (k : Nat) (hk : k < xs.length) : cntI (xs.take (k + 1)) now width = if inV (xs.getD k 0) now width = true then cntI (xs.take k) now width + 1 else cntI (xs.take k) now width := by
  unfold cntI
  rw [near_step xs now width k hk]
  split <;> simp
theorem cnt_bd (xs : List Int) (now width : Int) : 0 ≤ cntI xs now width ∧ cntI xs now width ≤ xs.length := by
  have := near_le xs now width
  unfold cntI; omega

theorem span_counted (t : Int) (w : World) :
    Calls Tryz.prog 102 #[.int .i64 t] w fun e w' => e = .returned (.int .i64 (clV t)) ∧ w = w' := by
  go_enter Tryz.func102, Tryz.ntmps102
  go_wp2_with (go_at_call 82; refine (sat_clamp _ _).mono ?_; rintro e w' ⟨rfl, rfl⟩)
  all_goals go_ret
  exact ⟨rfl, rfl⟩

theorem span_within (x now width : Int) (w : World) :
    Calls Tryz.prog 87 #[.int .i64 x, .int .i64 now, .int .i64 width] w fun e w' => e = .returned (.bool (inV x now width)) ∧ w = w' := by
  have hS := sat_sub now width w
  have hX := span_counted x w
  have hN := span_counted now w
  obtain ⟨E, hE⟩ : ∃ E, inV x now width = E := ⟨_, rfl⟩
  have hE2 := hE
  unfold inV at hE2
  rw [hE]
  clear hE
  generalize subV now width = b at *
  generalize subB now width = p at *
  generalize clV x = c at *
  generalize clV now = d at *
  have HS := Lib.hid hS
  have HX := Lib.hid hX
  have HN := Lib.hid hN
  clear hS hX hN
  by_cases h1 : b < c
  · by_cases h2 : c ≤ d
    · have HE := Lib.hid (show E = true by rw [← hE2]; simp; omega)
      clear hE2
      go_enter Tryz.func87, Tryz.ntmps87
      go_wp2_with (first
        | (go_at_call 101; refine HS.out.mono ?_; rintro e w' ⟨rfl, rfl⟩)
        | (go_at_call 102; ((with_reducible refine HX.out.mono ?_)); rintro e w' ⟨rfl, rfl⟩)
        | (go_at_call 102; ((with_reducible refine HN.out.mono ?_)); rintro e w' ⟨rfl, rfl⟩))
      all_goals go_ret
      all_goals exact ⟨ret_b (by rw [HE.out]; try simp [*]), rfl⟩
    · have HE := Lib.hid (show E = false by rw [← hE2]; simp; omega)
      clear hE2
      go_enter Tryz.func87, Tryz.ntmps87
      go_wp2_with (first
        | (go_at_call 101; refine HS.out.mono ?_; rintro e w' ⟨rfl, rfl⟩)
        | (go_at_call 102; ((with_reducible refine HX.out.mono ?_)); rintro e w' ⟨rfl, rfl⟩)
        | (go_at_call 102; ((with_reducible refine HN.out.mono ?_)); rintro e w' ⟨rfl, rfl⟩))
      all_goals go_ret
      all_goals exact ⟨ret_b (by rw [HE.out]; try simp [*]), rfl⟩
  · have HE := Lib.hid (show E = false by rw [← hE2]; simp; omega)
    clear hE2
    go_enter Tryz.func87, Tryz.ntmps87
    go_wp2_with (first
      | (go_at_call 101; refine HS.out.mono ?_; rintro e w' ⟨rfl, rfl⟩)
      | (go_at_call 102; ((with_reducible refine HX.out.mono ?_)); rintro e w' ⟨rfl, rfl⟩)
      | (go_at_call 102; ((with_reducible refine HN.out.mono ?_)); rintro e w' ⟨rfl, rfl⟩))
    all_goals go_ret
    all_goals exact ⟨ret_b (by rw [HE.out]; try simp [*]), rfl⟩

theorem span_count (A : Option Addr) (n c : Nat) (xs : List Int) (now width : Int) (w : World) (h : Ints w A n xs) (hn : n ≤ 9223372036854775807) :
    Calls Tryz.prog 89 #[.slice A n c, .int .i64 now, .int .i64 width] w fun e w' => e = .returned (.int .i64 (cntI xs now width)) ∧ w = w' := by
  obtain ⟨hl, hc⟩ := h
  have HC := Lib.hid hc
  have HL := Lib.hid hl
  clear hc hl
  go_enter Tryz.func89, Tryz.ntmps89
  go_wp2
  go_loop [7, 12] (fun s i => ∃ k : Nat, k ≤ n ∧ s = .int .i64 (cntI (xs.take k) now width) ∧ i = .int .i64 k) (fun _ i => n - (intOf i).toNat)
  case atStart => exact ⟨0, Nat.zero_le _, rfl, rfl⟩
  case round =>
    obtain ⟨k, hk, rfl, rfl⟩ := hrel
    by_cases hlt : k < n
    · obtain ⟨b, off, rfl, _, hcell⟩ := HC.out (by omega)
      have hck := hcell k hlt
      have hcl := HL.out
      have e1 := cnt_step xs now width k (by omega)
      have e2 := cnt_bd (xs.take k) now width
      rw [List.length_take] at e2
      obtain ⟨b0, b1⟩ : 0 ≤ cntI (xs.take k) now width ∧ cntI (xs.take k) now width ≤ k := by omega
      have E1 := Lib.hid e1
      clear hcell hcl e1 e2
      generalize xs.getD k 0 = x at *
      generalize cntI (xs.take k) now width = C at *
      have hW := span_within x now width w
      generalize inV x now width = I at *
      have HW := Lib.hid hW
      clear hW
      cases I
      all_goals
        go_wp2_with (go_at_call 87; refine HW.out.mono ?_; rintro e w' ⟨rfl, rfl⟩)
        go_round
        case rel => exact ⟨k + 1, by omega, by rw [E1.out]; simp, by go_num⟩
        case measure => simp [intOf]; omega
    · obtain rfl : k = n := by omega
      have e3 : xs.take k = xs := List.take_of_length_le (by have := HL.out; omega)
      rw [e3]
      clear e3
      go_wp2
      go_ret
      exact ⟨rfl, rfl⟩

theorem span_over (A : Option Addr) (n c : Nat) (xs : List Int) (now width limit : Int) (w : World) (h : Ints w A n xs) (hn : n ≤ 9223372036854775807) :
    Calls Tryz.prog 54 #[.slice A n c, .int .i64 now, .int .i64 width, .int .i64 limit] w fun e w' => e = .returned (.bool (overB xs now width limit)) ∧ w = w' := by
  have H := Lib.hid h
  clear h
  unfold overB
  go_enter Tryz.func54, Tryz.ntmps54
  go_wp2_with (go_at_call 89; refine (span_count _ _ _ xs _ _ _ H.out hn).mono ?_; rintro e w' ⟨rfl, rfl⟩)
  all_goals go_ret
  all_goals exact ⟨ret_b (by first | rfl | (simp [*]; done)), rfl⟩

theorem span_put_own (A : Option Addr) (n c : Nat) (xs : List Int) (t width most : Int) (w : World) (h : Ints w A n xs) (hn : n * 8 ≤ 140737488351232) :
    Calls Tryz.prog 52 #[.slice A n c, .int .i64 t, .int .i64 width, .int .i64 most] w (OwnInts w (pushL (nearL xs t width) most t)) := by
  have HI := Lib.hid h
  have HL := Lib.hid h.1
  clear h
  have h0 := Grown.empty w
  have H0 := Lib.hid h0
  clear h0
  go_enter Tryz.func52, Tryz.ntmps52
  go_wp2
  go_loopw [9, 15] (fun v i wr => ∃ k : Nat, k ≤ n ∧ i = .int .i64 k ∧ Grown w (nearL (xs.take k) t width) v wr) (fun _ i _ => n - (intOf i).toNat)
  case atStart => exact ⟨0, Nat.zero_le _, rfl, H0.out⟩
  case round =>
    obtain ⟨k, hk, rfl, hso⟩ := hrel
    have hll := near_le (xs.take k) t width
    rw [List.length_take] at hll
    have hlk : (nearL (xs.take k) t width).length ≤ k := by omega
    clear hll
    by_cases hlt : k < n
    · obtain ⟨b, off, rfl, hbs, hcell⟩ := HI.out.2 (by omega)
      have hck := (hso.2.2.cell (p := ⟨b, off + k, none⟩) hbs).trans (hcell k hlt)
      have e1 := near_step xs t width k (by have := HL.out; omega)
      have E1 := Lib.hid e1
      clear hcell e1
      generalize xs.getD k 0 = x at *
      generalize nearL (xs.take k) t width = ys at *
      have hsz := hso.2.2.size
      obtain ⟨B, d, rfl, hd, hi⟩ := hso.form
      have HS := Lib.hid hso
      have HO := Lib.hid hso.2.1
      clear hso hi hd
      have hW := span_within x t width wr
      generalize inV x t width = I at *
      have HW := Lib.hid hW
      clear hW
      cases I
      · go_wp2_with (go_at_call 87; refine HW.out.mono ?_; rintro e w' ⟨rfl, rfl⟩)
        go_roundw
        case rel => exact ⟨k + 1, by omega, by go_num, by rw [E1.out]; simpa using HS.out⟩
        case measure => simp [intOf]; omega
      · go_wp2_with (first
          | (go_at_call 87; refine HW.out.mono ?_; rintro e w' ⟨rfl, rfl⟩)
          | (at_builtin; refine app_int rfl _ _ rfl x rfl rfl HO.out hsz (by omega) ?_))
        intro v' w1 hown' hg
        have hnext := Lib.hid (HS.out.next (by simpa using hown') hg)
        clear hown' hg HO HS hck
        go_wp2
        go_roundw
        case rel => exact ⟨k + 1, by omega, by go_num, by rw [E1.out]; simpa using hnext.out⟩
        case measure => simp [intOf]; omega
    · obtain rfl : k = n := by omega
      have e3 : xs.take k = xs := List.take_of_length_le (by have := HL.out; omega)
      rw [e3] at hso hlk
      clear e3
      generalize nearL xs t width = ys at *
      obtain ⟨B, d, rfl, hd, hi⟩ := hso.form
      have HB := Lib.hid hso.2.2
      have HY := Lib.hid hi
      clear hso hi
      go_wp2_with (go_at_call 88; refine (ring_push_own B _ d ys most t _ HY.out hd (by omega)).mono ?_; rintro e w1 ⟨v1, rfl, ho1, hb1⟩)
      have HR := Lib.hid (OwnInts.from (w := w) (w1 := wr) ⟨v1, rfl, ho1, hb1⟩ HB.out)
      clear ho1 hb1
      go_ret
      exact HR.out
theorem span_put (A : Option Addr) (n c : Nat) (xs : List Int) (t width most : Int) (w : World) (h : Ints w A n xs) (hn : n * 8 ≤ 140737488351232) :
    Calls Tryz.prog 52 #[.slice A n c, .int .i64 t, .int .i64 width, .int .i64 most] w (NewInts w (pushL (nearL xs t width) most t)) :=
  (span_put_own A n c xs t width most w h hn).mono fun _ _ h => h.new
end Go.Proofs.YtmocppghmdeahaaGreat
