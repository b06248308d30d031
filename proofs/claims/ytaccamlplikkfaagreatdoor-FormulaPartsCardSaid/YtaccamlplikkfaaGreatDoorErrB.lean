/- errors.Is at two errors of package formula; what is wrong, as a number; Parse. -/
import Derived.Test.YtaccamlplikkfaaGreatDoorErrA
namespace Go.Proofs.YtaccamlplikkfaaGreatDoor
open Go.RowKit Go.Extern.Stop Go.Stop Go.Extern
set_option linter.unusedVariables false
set_option linter.unusedSimpArgs false
set_option maxRecDepth 100000
attribute [local go_sem] cell_set_ite

theorem rlComp (w : World) : (callFunc 111 #[.agg #[.pointer (some ⟨12, 151, none⟩)]]).run Tryz.prog w = .ok (.value (.bool true)) w := by kernel_rfl
theorem infoEs_at : ∃ i, Tryz.prog.info? 151 = some i ∧ i.comparable = true := by
  have h : (Tryz.prog.info? 151).map (·.comparable) = some true := by kernel_rfl
  obtain ⟨i, hi, hc⟩ := Option.map_eq_some_iff.1 h
  exact ⟨i, hi, hc⟩
theorem infoE_at : ∃ j, Tryz.prog.info? 153 = some j ∧ j.size ≠ 0 := by
  have h : (Tryz.prog.info? 153).map (·.size) = some 1 := by kernel_rfl
  obtain ⟨i, hi, hc⟩ := Option.map_eq_some_iff.1 h
  exact ⟨i, hi, by rw [hc]; decide⟩
theorem rlSame (a : Addr) (w : World) : (binOp .eql 40 (.iface 151 (.pointer (some a))) (.iface 151 (.pointer (some a)))).run Tryz.prog w = .ok (.bool true) w :=
  let ⟨_, h1, h2⟩ := infoEs_at; let ⟨_, h3, _⟩ := infoE_at; run_eql_iface_ptr_same w a Tryz.underlying40 Tryz.underlying151 h1 h2 h3
set_option maxHeartbeats 4000000 in
theorem is_hit (e : Addr) (w : World) : Calls Tryz.prog 28 #[.iface 151 (.pointer (some e)), .iface 151 (.pointer (some e))] w fun ev w' => ev = .returned (.bool true) ∧ Below w.heap.size w w' := by
  have h10 := @run_callFunc_extern Tryz.prog 42 _ ReflectliteType.typeOf Tryz.func42 (by kernel_rfl) (by kernel_rfl) (by kernel_rfl) (by kernel_rfl)
  have tO := rlTypeOfE
  have mC := rlMC
  have cC := rlComp
  have eS := rlSame
  have A0 : Below w.heap.size w w := Below.refl _ _
  go_enter Tryz.func28, Tryz.ntmps28
  go_wp2
  refine wp_loop_rounds 1 ?_
  rw [rounds_succ]
  go_wp2
  go_ret
  exact ⟨rfl, A0⟩
theorem rlOther {a b : Addr} {ca cb : Array Value} {ta tb : TypeId} (hne : a ≠ b) (w : World) (ha : w.heap[a.block]? = some (.cells ca ta (0, 0))) (hb : w.heap[b.block]? = some (.cells cb tb (0, 0))) : (binOp .eql 40 (.iface 151 (.pointer (some a))) (.iface 151 (.pointer (some b)))).run Tryz.prog w = .ok (.bool false) w :=
  let ⟨_, h1, h2⟩ := infoEs_at; let ⟨_, h3, h4⟩ := infoE_at; run_eql_iface_ptr_other w Tryz.underlying40 Tryz.underlying151 h1 h2 h3 h4 hne ha hb
set_option maxHeartbeats 4000000 in
theorem is_miss {a b : Addr} {ca cb : Array Value} {ta tb : TypeId} (hne : a ≠ b) (w : World) (ha : w.heap[a.block]? = some (.cells ca ta (0, 0))) (hb : w.heap[b.block]? = some (.cells cb tb (0, 0))) : Calls Tryz.prog 28 #[.iface 151 (.pointer (some a)), .iface 151 (.pointer (some b))] w fun ev w' => ev = .returned (.bool false) ∧ Below w.heap.size w w' := by
  have h10 := @run_callFunc_extern Tryz.prog 42 _ ReflectliteType.typeOf Tryz.func42 (by kernel_rfl) (by kernel_rfl) (by kernel_rfl) (by kernel_rfl)
  have tO := rlTypeOfE
  have mC := rlMC
  have cC := rlComp
  have eS := rlOther hne w ha hb
  have ti := rlNoIs
  have tu := rlNoUn
  have tv := rlNoUl
  have A0 : Below w.heap.size w w := Below.refl _ _
  go_enter Tryz.func28, Tryz.ntmps28
  go_wp2
  refine wp_loop_rounds 1 ?_
  rw [rounds_succ]
  go_wp2
  go_ret
  exact ⟨rfl, A0⟩

/-- What is known of the package's errors. -/
structure Er (w : World) (pm pp : Addr) : Prop where
  many : w.cell? ⟨0, 0, none⟩ = some (.iface 151 (.pointer (some pm)))
  parts : w.cell? ⟨1, 0, none⟩ = some (.iface 151 (.pointer (some pp)))
  kind : w.cell? ⟨3, 0, none⟩ = some (.iface 98 (.agg #[.pointer (some ⟨12, 40, none⟩)]))
  ne : pp ≠ pm
  om : ∃ c t, w.heap[pm.block]? = some (.cells c t (0, 0))
  op : ∃ c t, w.heap[pp.block]? = some (.cells c t (0, 0))
theorem Er.below {w w' : World} {pm pp : Addr} (h : Er w pm pp) (hb : Below w.heap.size w w') : Er w' pm pp := by
  obtain ⟨h1, h2, h3, h4, ⟨c1, t1, h5⟩, c2, t2, h6⟩ := h
  exact ⟨(hb.cell (p := ⟨0, 0, none⟩) (cell_lt h1)).trans h1, (hb.cell (p := ⟨1, 0, none⟩) (cell_lt h2)).trans h2, (hb.cell (p := ⟨3, 0, none⟩) (cell_lt h3)).trans h3, h4,
    ⟨c1, t1, (hb.block _ (Array.getElem?_eq_some_iff.1 h5).1).trans h5⟩, c2, t2, (hb.block _ (Array.getElem?_eq_some_iff.1 h6).1).trans h6⟩

/-- Which error, and which number. -/
inductive IsErr (pm pp : Addr) : Nat → Value → Prop
  | none : IsErr pm pp 0 .nilIface
  | word (q : ByteArray) : IsErr pm pp 1 (.iface 64 (.agg #[.string q]))
  | many : IsErr pm pp 2 (.iface 151 (.pointer (some pm)))
  | parts : IsErr pm pp 3 (.iface 151 (.pointer (some pp)))
def noE : Nat → Int
  | 0 => 0
  | 1 => 6
  | 2 => 4
  | _ => 1
set_option maxHeartbeats 4000000 in
theorem fo_number (pm pp : Addr) (k : Nat) (v : Value) (w : World) (h : Er w pm pp) (hv : IsErr pm pp k v) : Calls Tryz.prog 14 #[v] w fun e w' => e = .returned (.int .i64 (noE k)) ∧ Below w.heap.size w w' := by
  have A0 : Below w.heap.size w w := Below.refl _ _
  have A1 := A0.alloc (Nat.le_refl _) (.cells #[.string ⟨#[]⟩] 64)
  have X := (box_new w #[.string ⟨#[]⟩] 64).one
  have h1 := h.below A1
  cases hv with
  | none =>
    go_enter Tryz.func14, Tryz.ntmps14
    go_wp2_with (fail)
    all_goals go_ret
    all_goals exact ⟨rfl, by (repeat (first | (with_reducible exact Below.refl _ _) | (with_reducible assumption) | (with_reducible refine Near.up _ ?_) | (with_reducible refine Below.drew ?_) | (with_reducible refine below_alloc_on ?_ _) | (with_reducible refine below_set_on ?_ (by first | (simp; done) | (simp; omega) | omega) _)))⟩
  | word q =>
    have K := Lib.hid (as_hit q w.heap.size ⟨#[]⟩ _ h1.kind X.1 (X.2.1 0))
    clear h h1 X
    go_enter Tryz.func14, Tryz.ntmps14
    go_wp2_with (go_at_call 27; refine K.out.mono ?_; rintro e w1 ⟨rfl, Y, hY, rfl⟩)
    all_goals go_ret
    all_goals exact ⟨rfl, (below_call A1 hY).setCell (p := ⟨w.heap.size, 0, none⟩) (Nat.le_refl _) _⟩
  | many =>
    have K := Lib.hid (as_miss pm w.heap.size ⟨#[]⟩ _ h1.kind X.1)
    have HE := Lib.hid h1
    clear h h1 X
    go_enter Tryz.func14, Tryz.ntmps14
    go_wp2_with (first
      | (go_at_call 27; refine K.out.mono ?_; rintro e w1 ⟨rfl, b1⟩; have c1 := (HE.out.below b1).many)
      | (go_at_call 28; refine (is_hit pm _).mono ?_; rintro e w2 ⟨rfl, b2⟩))
    all_goals go_ret
    all_goals exact ⟨rfl, below_call (below_call A1 b1) b2⟩
  | parts =>
    have K := Lib.hid (as_miss pp w.heap.size ⟨#[]⟩ _ h1.kind X.1)
    have HE := Lib.hid h1
    clear h h1 X
    go_enter Tryz.func14, Tryz.ntmps14
    go_wp2_with (first
      | (go_at_call 27; refine K.out.mono ?_; rintro e w1 ⟨rfl, b1⟩; have E1 := HE.out.below b1; have c1 := E1.many; have KI := Lib.hid (is_miss E1.ne w1 E1.op.choose_spec.choose_spec E1.om.choose_spec.choose_spec); clear E1)
      | (go_at_call 28; refine KI.out.mono ?_; rintro e w2 ⟨rfl, b2⟩))
    all_goals go_ret
    all_goals exact ⟨rfl, below_call (below_call A1 b1) b2⟩
end Go.Proofs.YtaccamlplikkfaaGreatDoor
