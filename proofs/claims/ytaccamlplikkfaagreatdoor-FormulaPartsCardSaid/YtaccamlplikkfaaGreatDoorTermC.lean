/- The parts of term: a numeral's number; a prefix cut off; a text cut at a mark. -/
import Derived.Test.YtaccamlplikkfaaGreatDoorWord
import Derived.Test.YtaccamlplikkfaaGreatDoorHrLay
import Derived.Lib.CutLaws
import Derived.Lib.IndexBytes
import Derived.Stop.LaidErr
import Derived.Deep.QuietTactic
import Derived.BigQuiet
namespace Go.Proofs.YtaccamlplikkfaaGreatDoor
open Go.RowKit Go.Deep
set_option linter.unusedVariables false
set_option linter.unusedSimpArgs false
set_option maxRecDepth 100000
attribute [local go_sem] cell_set_ite Near.cell Near.frozen
attribute [-go_sem] run_string_add_if

/-- What the package-level errors and the longest needle are. -/
structure Ge (w : World) : Prop where
  syn : ∃ te pe, w.cell? ⟨8, 0, none⟩ = some (.iface te pe)
  rng : ∃ te pe, w.cell? ⟨9, 0, none⟩ = some (.iface te pe)
  max : ∃ m, w.cell? ⟨4, 0, none⟩ = some (.int .i64 m)
theorem Ge.below {w w' : World} (h : Ge w) (hb : Below w.heap.size w w') : Ge w' := by
  obtain ⟨⟨a, b, h1⟩, ⟨c, d, h2⟩, m, h3⟩ := h
  exact ⟨⟨a, b, (hb.cell (p := ⟨8, 0, none⟩) (cell_lt h1)).trans h1⟩, ⟨c, d, (hb.cell (p := ⟨9, 0, none⟩) (cell_lt h2)).trans h2⟩, m, (hb.cell (p := ⟨4, 0, none⟩) (cell_lt h3)).trans h3⟩
theorem fo_count (s : ByteArray) (hs : s.size ≤ 1000) (w : World) (E : Ge w) : Calls Tryz.prog 35 #[.string s] w fun e w' => e = .returned (.int .i64 (cntF s.data.toList)) ∧ Below w.heap.size w w' := by
  obtain ⟨⟨a, b, h1⟩, ⟨c, d, h2⟩, _⟩ := E
  unfold cntF
  cases hx : Lib.atoiAll s.data.toList with
  | ok v =>
    have K := Lib.hid (Any.strconv_Atoi_ok hrl172 s (by omega) v hx w)
    show Calls _ _ _ _ (fun e w' => e = .returned (.int .i64 v) ∧ _)
    clear hx h1 h2
    go_enter Tryz.func35, Tryz.ntmps35
    go_wp2_with (go_at_call 51; refine K.out.mono ?_; rintro e w' ⟨rfl, hw⟩)
    all_goals go_ret
    all_goals
      refine ⟨rfl, ?_⟩
      rcases hw with rfl | ⟨t, rfl⟩
      · exact Below.refl _ _
      · exact Lib.bytesWorld_below _ _ _
  | «syntax» =>
    have K := Lib.hid (Any.strconv_Atoi_syntax hrl172 s (by omega) hx (.iface a b) w h1 (.inr ⟨_, _, rfl⟩))
    show Calls _ _ _ _ (fun e w' => e = .returned (.int .i64 (-1)) ∧ _)
    clear hx h1 h2
    go_enter Tryz.func35, Tryz.ntmps35
    go_wp2_with (go_at_call 51; refine K.out.mono ?_; rintro e w' ⟨N, rfl, _, _, hb⟩)
    all_goals go_ret
    all_goals exact ⟨rfl, hb⟩
  | range =>
    have K := Lib.hid (Any.strconv_Atoi_range hrl172 s (by omega) hx (.iface c d) w h2 (.inr ⟨_, _, rfl⟩))
    show Calls _ _ _ _ (fun e w' => e = .returned (.int .i64 (-1)) ∧ _)
    clear hx h1 h2
    go_enter Tryz.func35, Tryz.ntmps35
    go_wp2_with (go_at_call 51; refine K.out.mono ?_; rintro e w' ⟨N, rfl, _, _, hb⟩)
    all_goals go_ret
    all_goals exact ⟨rfl, hb⟩
theorem has_is (p t : ByteArray) (h : p.size ≤ t.size) : ((t.extract 0 p.size).toList == p.toList) = p.data.toList.isPrefixOf t.data.toList := by
  rw [ByteArray.toList_eq, ByteArray.toList_eq]
  have e : (t.extract 0 p.size).data.toList = t.data.toList.take p.data.toList.length := by
    simp [ByteArray.data_extract, Array.toList_extract, List.extract]
  rw [e]
  cases hq : p.data.toList.isPrefixOf t.data.toList
  · rw [beq_eq_false_iff_ne]
    intro hx
    rw [Bool.eq_false_iff] at hq
    have hp := List.take_prefix p.data.toList.length t.data.toList
    rw [hx] at hp
    exact hq (List.isPrefixOf_iff_prefix.2 hp)
  · rw [List.isPrefixOf_iff_prefix] at hq
    obtain ⟨r, hr⟩ := hq
    rw [← hr, List.take_left]
    exact beq_self_eq_true _
theorem fo_has (p t : ByteArray) (hs : t.size ≤ 1000000) (w : World) : Calls Tryz.prog 61 #[.string t, .string p] w fun e w' => e = .returned (.bool (p.data.toList.isPrefixOf t.data.toList)) ∧ w = w' := by
  by_cases h : p.size ≤ t.size
  · have h1 := has_is p t h
    generalize p.data.toList.isPrefixOf t.data.toList = q at *
    have t1 : decide ((p.size : Int) ≤ (t.size : Int)) = true := by simp; omega
    go_enter Tryz.func61, Tryz.ntmps61
    go_wp2
    all_goals go_ret
    all_goals exact ⟨rfl, rfl⟩
  · have h1 : p.data.toList.isPrefixOf t.data.toList = false := by
      rw [Bool.eq_false_iff]
      intro hq
      rw [List.isPrefixOf_iff_prefix] at hq
      have := hq.length_le
      have e1 : p.data.toList.length = p.size := rfl
      have e2 : t.data.toList.length = t.size := rfl
      omega
    rw [h1]
    have t1 : decide ((p.size : Int) ≤ (t.size : Int)) = false := by simp; omega
    go_enter Tryz.func61, Tryz.ntmps61
    go_wp2
    all_goals go_ret
    all_goals exact ⟨rfl, rfl⟩
def cpS (p t : ByteArray) : ByteArray := if p.data.toList.isPrefixOf t.data.toList = true then t.extract p.size t.size else t
theorem fo_cutp0 (p t : ByteArray) (hs : t.size ≤ 1000000) (w : World) : Calls Tryz.prog 50 #[.string t, .string p] w fun e w' => e = .returned (.tuple #[.string (cpS p t), .bool (p.data.toList.isPrefixOf t.data.toList)]) ∧ w = w' := by
  have HH := Lib.hid (fun w => fo_has p t hs w)
  have h1 : p.data.toList.isPrefixOf t.data.toList = true → p.size ≤ t.size := fun hq => by
    rw [List.isPrefixOf_iff_prefix] at hq
    exact hq.length_le
  unfold cpS
  cases hq : p.data.toList.isPrefixOf t.data.toList
  · rw [if_neg (by simp)]
    rw [hq] at HH
    clear h1 hq
    go_enter Tryz.func50, Tryz.ntmps50
    go_wp2_with (go_at_call 61; refine (HH.out _).mono ?_; rintro e w' ⟨rfl, rfl⟩)
    all_goals go_ret2
    all_goals exact ⟨rfl, rfl⟩
  · rw [if_pos rfl]
    have h2 := h1 hq
    rw [hq] at HH
    clear h1 hq
    have t1 : (p.size : Int) ≤ (t.size : Int) := by omega
    go_enter Tryz.func50, Tryz.ntmps50
    go_wp2_with (go_at_call 61; refine (HH.out _).mono ?_; rintro e w' ⟨rfl, rfl⟩)
    all_goals go_ret2
    all_goals exact ⟨rfl, rfl⟩
theorem fo_cutp (p t : ByteArray) (hs : t.size ≤ 1000000) (w : World) : Calls Tryz.prog 34 #[.string t, .string p] w fun e w' => e = .returned (.tuple #[.string (cpS p t), .bool (p.data.toList.isPrefixOf t.data.toList)]) ∧ w = w' := by
  have HH := Lib.hid (fun w => fo_cutp0 p t hs w)
  generalize cpS p t = r at *
  generalize p.data.toList.isPrefixOf t.data.toList = q at *
  go_enter Tryz.func34, Tryz.ntmps34
  go_wp2_with (go_at_call 50; refine (HH.out _).mono ?_; rintro e w' ⟨rfl, rfl⟩)
  all_goals go_ret2
  all_goals exact ⟨rfl, rfl⟩
set_option maxHeartbeats 1000000 in
theorem fo_cut0 (s sep : ByteArray) (hs : s.size ≤ 1000) (w : World) (E : Ge w) :
    Calls Tryz.prog 52 #[.string s, .string sep] w fun e w' => e = .returned (.tuple #[.string ⟨(Lib.cut s.data.toList sep.data.toList).1.toArray⟩, .string ⟨(Lib.cut s.data.toList sep.data.toList).2.1.toArray⟩, .bool (Lib.cut s.data.toList sep.data.toList).2.2]) ∧ Below w.heap.size w w' := by
  obtain ⟨_, _, m, hm⟩ := E
  have hI := Any.stringslite_Index hrl219 s sep m w (by omega) hm
  rcases Lib.indexB_cases s sep with hix | ⟨i, hix, hroom⟩
  · obtain ⟨e1, e2, e3⟩ := Lib.cutB_miss s sep hix
    rw [e1, e2, e3]
    rw [show Lib.index s.data.toList sep.data.toList = -1 from hix] at hI
    have HI := Lib.hid hI
    clear hix e1 e2 e3 hI hm
    go_enter Tryz.func52, Tryz.ntmps52
    go_wp2_with (go_at_call 60; refine HI.out.mono ?_; rintro e w' ⟨rfl, rfl⟩)
    go_ret3
    exact ⟨rfl, Below.refl _ _⟩
  · obtain ⟨e1, e2, e3⟩ := Lib.cutB_hit s sep i hix
    rw [e1, e2, e3]
    rw [show Lib.index s.data.toList sep.data.toList = (i : Int) from hix] at hI
    have HI := Lib.hid hI
    have c1 : (0 : Int) ≤ ↑i := by omega
    have c2 : (↑i : Int) ≤ ↑s.size := by omega
    have c3 : (0 : Int) ≤ ↑i + ↑sep.size := by omega
    have c4 : (↑i + ↑sep.size : Int) ≤ ↑s.size := by omega
    clear hix e1 e2 e3 hI hm
    go_enter Tryz.func52, Tryz.ntmps52
    go_wp2_with (go_at_call 60; refine HI.out.mono ?_; rintro e w' ⟨rfl, rfl⟩)
    go_quiet (fail)
    go_wp2
    go_ret3
    exact ⟨rfl, below_drewN (Below.refl _ _) _⟩
theorem fo_cut (s sep : ByteArray) (hs : s.size ≤ 1000) (w : World) (E : Ge w) :
    Calls Tryz.prog 36 #[.string s, .string sep] w fun e w' => e = .returned (.tuple #[.string ⟨(Lib.cut s.data.toList sep.data.toList).1.toArray⟩, .string ⟨(Lib.cut s.data.toList sep.data.toList).2.1.toArray⟩, .bool (Lib.cut s.data.toList sep.data.toList).2.2]) ∧ Below w.heap.size w w' := by
  have K := Lib.hid (fo_cut0 s sep hs w E)
  clear E
  generalize (Lib.cut s.data.toList sep.data.toList).2.2 = q at *
  generalize (⟨(Lib.cut s.data.toList sep.data.toList).1.toArray⟩ : ByteArray) = x at *
  generalize (⟨(Lib.cut s.data.toList sep.data.toList).2.1.toArray⟩ : ByteArray) = y at *
  go_enter Tryz.func36, Tryz.ntmps36
  go_wp2_with (go_at_call 52; refine K.out.mono ?_; rintro e w' ⟨rfl, hb⟩)
  go_ret3
  exact ⟨rfl, hb⟩
end Go.Proofs.YtaccamlplikkfaaGreatDoor
