/- Contracts of package diary: the word, the text; the law package's Same. -/
import Derived.Test.YtbhgecmmmkmkjaaDoorNotes
import Derived.Test.YtbhgecmmmkmkjaaDoorLaid
import Derived.Test.YtbhgecmmmkmkjaaDoorAt
import Derived.Lib.SmallJoins
import Derived.Laws.Concat
import Derived.Lib.ItoaLen
namespace Go.Proofs.YtbhgecmmmkmkjaaDoor
open Go.RowKit Go.Deep
set_option linter.unusedVariables false
set_option linter.unusedSimpArgs false
set_option maxRecDepth 100000
attribute [local go_sem] cell_set_ite Near.cell Near.frozen
attribute [-go_sem] run_string_add_if

def diWords : List (List UInt8) := [[109, 111, 100, 101], [108, 97, 116, 99, 104], [97, 99, 107], [112, 114, 111, 103, 114, 97, 109, 109, 101], [100, 114, 111, 112], [98, 111, 111, 116], [119, 114, 105, 116, 101]]
def wdV (m : Int) : ByteArray := if m = 1 then ⟨#[109, 111, 100, 101]⟩ else if m = 2 then ⟨#[108, 97, 116, 99, 104]⟩ else if m = 3 then ⟨#[97, 99, 107]⟩ else if m = 4 then ⟨#[112, 114, 111, 103, 114, 97, 109, 109, 101]⟩ else if m = 5 then ⟨#[100, 114, 111, 112]⟩ else if m = 6 then ⟨#[98, 111, 111, 116]⟩ else if m = 7 then ⟨#[119, 114, 105, 116, 101]⟩ else ⟨#[63]⟩
theorem di_word (m : Int) (w : World) (hN : Words w 0 diWords) : Calls Tryd.prog 26 #[.int .i64 m] w fun e w' => e = .returned (.string (wdV m)) ∧ w = w' := by
  have c0 := hN.at_ 0 _ rfl
  have c1 := hN.at_ 1 _ rfl
  have c2 := hN.at_ 2 _ rfl
  have c3 := hN.at_ 3 _ rfl
  have c4 := hN.at_ 4 _ rfl
  have c5 := hN.at_ 5 _ rfl
  have c6 := hN.at_ 6 _ rfl
  clear hN
  rcases (by omega : m = 1 ∨ m = 2 ∨ m = 3 ∨ m = 4 ∨ m = 5 ∨ m = 6 ∨ m = 7 ∨ m < 1 ∨ 7 < m) with rfl | rfl | rfl | rfl | rfl | rfl | rfl | h | h
  all_goals
    first
      | rw [show wdV m = ⟨#[63]⟩ by unfold wdV; simp only [show ¬ m = 1 by omega, show ¬ m = 2 by omega, show ¬ m = 3 by omega, show ¬ m = 4 by omega, show ¬ m = 5 by omega, show ¬ m = 6 by omega, show ¬ m = 7 by omega, if_false]]
      | skip
    go_enter Tryd.func26, Tryd.ntmps26
    go_wp2
    all_goals go_ret
    all_goals exact ⟨rfl, rfl⟩

theorem di_word_b (m : Int) (w : World) (hN : Words w 0 diWords) : Calls Tryd.prog 26 #[.int .i64 m] w fun e w' => e = .returned (.string (wdV m)) ∧ Below w.heap.size w w' :=
  (di_word m w hN).mono fun _ _ ⟨he, hw⟩ => ⟨he, by rw [← hw]; exact Below.refl _ _⟩
theorem wdV_len (m : Int) : (wdV m).size ≤ 9 := by
  unfold wdV
  split; · decide
  split; · decide
  split; · decide
  split; · decide
  split; · decide
  split; · decide
  split <;> decide
theorem itS_len (n : Int) (h : -9223372036854775808 ≤ n ∧ n ≤ 9223372036854775807) : (itS n).size ≤ 24 := by
  have := Lib.itoa_length_le n h.1 h.2
  show (Lib.itoa n).toArray.size ≤ 24
  simp only [List.size_toArray]; omega
theorem str_add (a b : ByteArray) (w : World) (h : a.size + b.size ≤ 9223372036854775807) : (Op.stringOp .add a b).run Tryd.prog w = .ok (.string (a ++ b)) w := run_string_add_sum w a b h
theorem below_grow (w : World) (os : Array Obj) : Below w.heap.size w (Sort.grow w os) :=
  ⟨rfl, rfl, rfl, by show w.heap.size ≤ (w.heap ++ os).size; rw [Array.size_append]; omega, fun j hj => Array.getElem?_append_left hj⟩
abbrev ItTab (w : World) : Prop := Lib.TabIs Tryd.prog w "internal/strconv.uint64pow10" .u64 Lib.pow10Tab
theorem itoa_b (n : Int) (h0 : -9223372036854775808 ≤ n) (h1 : n ≤ 9223372036854775807) (w : World) (ht : ItTab w) : Calls Tryd.prog 23 #[.int .i64 n] w fun e w' => e = .returned (.string (itS n)) ∧ Below w.heap.size w w' :=
  (itoa_is n h0 h1 w ht).mono fun _ _ ⟨he, k, os, hw⟩ => ⟨he, by rw [hw]; exact below_call (below_drewN (Below.refl _ _) k) (below_grow _ os)⟩
theorem ItTab.stays {w w' : World} (h : ItTab w) (hb : Below w.heap.size w w') : ItTab w' := Joins.tab_stays (g := 4) (by kernel_rfl) h hb (Nat.le_refl _)
theorem Words.stays {w w' : World} {g : Nat} {ss : List (List UInt8)} (h : Words w g ss) (hb : Below w.heap.size w w') : Words w' g ss := h.below hb

/-- A note as a line. -/
def txV (x : Nt) : ByteArray := ((((itS x.t) ++ ⟨#[32]⟩) ++ wdV x.w) ++ ⟨#[32]⟩) ++ itS x.a

set_option maxHeartbeats 4000000 in
theorem di_same (A B : Option Addr) (n c d : Nat) (l : List Nt) (w : World) (h1 : Notes w A n l) (h2 : Notes w B n l) (hn : n ≤ 100000) : Calls Tryd.prog 13 #[.slice A n c, .slice B n d] w fun e w' => e = .returned (.bool true) ∧ Below w.heap.size w w' := by
  have H1 := Lib.hid h1
  have H2 := Lib.hid h2
  clear h1 h2
  have hnn : (((n : Int)) != (n : Int)) = false := by simp
  go_enter Tryd.func13, Tryd.ntmps13
  go_wp2
  go_loopg [13] n (fun gk i wr => ∃ k : Nat, k ≤ n ∧ gk = n - k ∧ i = .int .i64 k ∧ Below w.heap.size w wr)
  case atStart => exact ⟨0, by omega, rfl, rfl, Below.refl _ _⟩
  case round =>
    obtain ⟨k, hk, rfl, rfl, A1⟩ := hrel
    have HA := Lib.hid A1
    by_cases hlt : k < n
    · obtain ⟨b, off, rfl, hbs, c0, c1, c2⟩ := (H1.out.below A1).at_ hlt
      obtain ⟨b', off', rfl, hbs', d0, d1, d2⟩ := (H2.out.below A1).at_ hlt
      clear A1
      generalize l.getD k nt0 = x at *
      go_upto_region 6 with (fail)
      refine wp_region_calm (by kernel_rfl) (by kernel_rfl) ?_
      repeat (go_big_quiet_step ((fail)))
      refine wpQuiet_nil ?_
      intro _ hw'
      obtain ⟨u, rfl⟩ := hw'
      have A2 := Lib.hid (below_call HA.out u.below)
      go_wp2
      go_roundg (n - (k + 1))
      case measure => omega
      case rel => exact ⟨k + 1, by omega, by omega, by go_num, A2.out⟩
    · obtain rfl : k = n := by omega
      clear A1
      go_wp2
      all_goals go_ret
      all_goals exact ⟨rfl, HA.out⟩

def I64 (n : Int) : Prop := -9223372036854775808 ≤ n ∧ n ≤ 9223372036854775807
set_option maxHeartbeats 4000000 in
theorem di_text (xt xw xa : Int) (w : World) (ht : I64 xt) (ha : I64 xa) (hI : ItTab w) (hN : Words w 0 diWords) : Calls Tryd.prog 16 #[.agg #[.int .i64 xt, .int .i64 xw, .int .i64 xa]] w fun e w' => e = .returned (.string (txV ⟨xt, xw, xa⟩)) ∧ Below w.heap.size w w' := by
  have HI := Lib.hid hI
  have HN := Lib.hid hN
  have HE := Lib.hid (show txV ⟨xt, xw, xa⟩ = ((((itS xt) ++ ⟨#[32]⟩) ++ wdV xw) ++ ⟨#[32]⟩) ++ itS xa from rfl)
  clear hI hN
  go_enter Tryd.func16, Tryd.ntmps16
  go_upto_region 1 with (fail)
  refine at_world (fun W => Below w.heap.size w W ∧ Box W w.heap.size #[.int .i64 xt, .int .i64 xw, .int .i64 xa]) ⟨by (repeat (first | (with_reducible exact Below.refl _ _) | (with_reducible assumption) | (with_reducible refine Near.up _ ?_) | (with_reducible refine Below.drew ?_) | (with_reducible refine below_alloc_on ?_ _) | (with_reducible refine below_set_on ?_ (by first | (simp; done) | (simp; omega) | omega) _))), box_new _ _ _⟩ ?_
  obtain ⟨g, hg⟩ : ∃ g, w.heap.size = g := ⟨_, rfl⟩
  have A0 : Below w.heap.size w w := Below.refl _ _
  rintro W ⟨A1, BX⟩
  rw [hg] at BX
  simp only [hg]
  clear hg
  obtain ⟨z0, z1, z2, zf, zl⟩ := BX.three
  have IW := HI.out.stays A1
  have NW := HN.out.stays A1
  have K1 := Lib.hid (fun u : Near W => itoa_b xt ht.1 ht.2 u.at_ (IW.stays u.below))
  have K2 := Lib.hid (fun u : Near W => di_word_b xw u.at_ (NW.stays u.below))
  have K3 := Lib.hid (fun u : Near W => itoa_b xa ha.1 ha.2 u.at_ (IW.stays u.below))
  clear IW NW BX
  have l1 := itS_len xt ht
  have l2 := itS_len xa ha
  have l3 := wdV_len xw
  generalize itS xt = p at *
  generalize itS xa = q at *
  generalize wdV xw = v at *
  have e1 := fun W => str_add p ⟨#[32]⟩ W (by show _ + 1 ≤ _; omega)
  have m1 : (p ++ ⟨#[32]⟩ : ByteArray).size ≤ 25 := by rw [ByteArray.size_append]; show _ + 1 ≤ _; omega
  generalize p ++ (⟨#[32]⟩ : ByteArray) = s1 at *
  have e2 := fun W => str_add s1 v W (by omega)
  have m2 : (s1 ++ v).size ≤ 34 := by rw [ByteArray.size_append]; omega
  generalize s1 ++ v = s2 at *
  have e3 := fun W => str_add s2 ⟨#[32]⟩ W (by show _ + 1 ≤ _; omega)
  have m3 : (s2 ++ ⟨#[32]⟩ : ByteArray).size ≤ 35 := by rw [ByteArray.size_append]; show _ + 1 ≤ _; omega
  generalize s2 ++ (⟨#[32]⟩ : ByteArray) = s3 at *
  have e4 := fun W => str_add s3 q W (by omega)
  generalize s3 ++ q = s4 at *
  clear l1 l2 l3 m1 m2 m3
  refine wp_region_calm (by kernel_rfl) (by kernel_rfl) ?_
  repeat (go_big_quiet_step (((first | (go_at_call 23; first | exact calm_of _ (K1.out _) | exact calm_of _ (K3.out _)) | (go_at_call 26; exact calm_of _ (K2.out _))))))
  refine wpQuiet_nil ?_
  intro _ hw'
  obtain ⟨u, rfl⟩ := hw'
  have A2 := below_call A1 u.below
  have HA2 := Lib.hid A2
  clear A1 A2
  go_wp2
  all_goals go_ret
  all_goals exact ⟨by rw [HE.out]; rfl, HA2.out⟩
end Go.Proofs.YtbhgecmmmkmkjaaDoor
