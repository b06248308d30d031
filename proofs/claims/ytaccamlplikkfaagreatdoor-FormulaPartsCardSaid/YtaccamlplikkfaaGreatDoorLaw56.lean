/- What the laws of the formulas read of the package-level variables; formula's Parse; two lists that are the same; the law package's awake. -/
import Derived.Test.YtaccamlplikkfaaGreatDoorText
import Derived.Test.YtaccamlplikkfaaGreatDoorHolQ
import Derived.Test.YtaccamlplikkfaaGreatDoorLaidS
import Derived.LaidSub
import Derived.Stop.LaidTwo
import Derived.LaidHandle
import Derived.Shelf.Vars
namespace Go.Proofs.YtaccamlplikkfaaGreatDoor
open Go.RowKit Go.Deep
set_option linter.unusedVariables false
set_option linter.unusedSimpArgs false
set_option maxRecDepth 100000
attribute [local go_sem] cell_set_ite Near.cell Near.frozen
attribute [-go_sem] run_string_add_if

theorem fo_star : "*" ++ "errors.errorString" = "*errors.errorString" := by decide
theorem fo_row (u : TypeId) (h : Tryz.prog.typeName? 3 u = some "*errors.errorString") : u = 151 :=
  typeName_ptr_named (nm := "errors.errorString") (by rw [fo_star]; kernel_rfl) (by kernel_rfl) (by decide) u (by rw [fo_star]; exact h)
theorem fo_rt : (Tryz.prog.cutTypes.find? (·.1 == "internal/reflectlite.rtype")).map (·.2) = some 98 := by kernel_rfl
theorem fo_oneRow : ((List.range Tryz.prog.types.size).filter fun t => Tryz.prog.rowNamed t [101, 114, 114, 111, 114]) = [40] := by kernel_rfl
theorem fo_handle {W : World} {l : List (String × DataW Unit)} (h : laidMetH Tryz.prog l W) (e : ("errors.errorType", (.iface "internal/reflectlite.rtype" (.agg [.ptr (.lit (.string [101, 114, 114, 111, 114]))]) : DataW Unit)) ∈ l.filter fun x => x.2.handleName?.isSome) :
    W.cell? ⟨3, 0, none⟩ = some (.iface 98 (.agg #[.pointer (some ⟨12, 40, none⟩)])) := by
  have h2 := (laidMetH_iff.1 h).2 _ e
  obtain ⟨name, u, ty, e1, e2, e3, e4, e5⟩ := h2
  have en : name = [101, 114, 114, 111, 114] := (Option.some.inj e1).symm
  subst en
  obtain rfl := Option.some.inj (fo_rt.symm.trans e2)
  have hm : ty ∈ (List.range Tryz.prog.types.size).filter fun t => Tryz.prog.rowNamed t [101, 114, 114, 111, 114] := List.mem_filter.2 ⟨List.mem_range.2 e3, e4⟩
  rw [fo_oneRow] at hm
  obtain rfl := List.mem_singleton.1 hm
  have hh : typeHandle Tryz.prog 40 = .pointer (some ⟨12, 40, none⟩) := by kernel_rfl
  rw [hh] at e5
  have g0 : Tryz.prog.globalNamed "errors.errorType" = some 3 := by kernel_rfl
  simpa using World.var?_cell g0 e5 0
def fo_tMany : List UInt8 := [109, 111, 114, 101, 32, 112, 97, 114, 116, 115, 32, 116, 104, 97, 110, 32, 109, 97, 121, 32, 98, 101]
def fo_tParts : List UInt8 := [112, 97, 114, 116, 115, 32, 116, 104, 97, 116, 32, 97, 114, 101, 32, 110, 111, 32, 102, 111, 114, 109, 117, 108, 97]
theorem fo_tabs {W : World} {l : List (String × DataW Unit)} (h : laidMetH Tryz.prog l W) (hs : W.ShapedOpen Tryz.prog)
    (e1 : l.filter (fun x => x.1 == "internal/strconv.uint64pow10") = [("internal/strconv.uint64pow10", Lib.tabData .u64 Lib.pow10Tab)])
    (e2 : l.filter (fun x => x.1 == "strconv.ErrSyntax") = [("strconv.ErrSyntax", .iface "*errors.errorString" (.ptr (.agg [.lit (.string [105, 110, 118, 97, 108, 105, 100, 32, 115, 121, 110, 116, 97, 120])])))])
    (e3 : l.filter (fun x => x.1 == "strconv.ErrRange") = [("strconv.ErrRange", .iface "*errors.errorString" (.ptr (.agg [.lit (.string [118, 97, 108, 117, 101, 32, 111, 117, 116, 32, 111, 102, 32, 114, 97, 110, 103, 101])])))])
    (e4 : l.filter (fun x => x.1 == "pinchcock/formula.asked") = [("pinchcock/formula.asked", .agg (askL.map fun s => .lit (.string s)))])
    (e5 : l.filter (fun x => x.1 == "pinchcock/formula.errMany" || x.1 == "pinchcock/formula.errParts") = [("pinchcock/formula.errMany", .iface "*errors.errorString" (.ptr (.agg [.lit (.string fo_tMany)]))), ("pinchcock/formula.errParts", .iface "*errors.errorString" (.ptr (.agg [.lit (.string fo_tParts)])))])
    (e6 : l.filter (fun x => x.2.handleName?.isSome) = [("errors.errorType", .iface "internal/reflectlite.rtype" (.agg [.ptr (.lit (.string [101, 114, 114, 111, 114]))]))]) :
    Gl W ∧ Ge W ∧ ∃ pm pp, Er W pm pp := by
  have h1 := laidMetH.filter (fun x => x.1 == "internal/strconv.uint64pow10") h
  have h2 := laidMetH.filter (fun x => x.1 == "strconv.ErrSyntax") h
  have h3 := laidMetH.filter (fun x => x.1 == "strconv.ErrRange") h
  have h4 := laidMetH.filter (fun x => x.1 == "pinchcock/formula.asked") h
  have h5 := laidMetH.filter (fun x => x.1 == "pinchcock/formula.errMany" || x.1 == "pinchcock/formula.errParts") h
  rw [e1] at h1
  rw [e2] at h2
  rw [e3] at h3
  rw [e4] at h4
  rw [e5] at h5
  have g2 : Tryz.prog.globalNamed "strconv.ErrSyntax" = some 8 := by kernel_rfl
  have g3 : Tryz.prog.globalNamed "strconv.ErrRange" = some 9 := by kernel_rfl
  have g5 : Tryz.prog.globalNamed "pinchcock/formula.errMany" = some 0 := by kernel_rfl
  have g6 : Tryz.prog.globalNamed "pinchcock/formula.errParts" = some 1 := by kernel_rfl
  refine ⟨⟨Lib.tabIs_of_head (g := 5) (by kernel_rfl) (by kernel_rfl) Tryz.underlying122 Tryz.underlying114 (by kernel_rfl) (by kernel_rfl) h1,
    words_of (by kernel_rfl) (by kernel_rfl) Tryz.underlying69 Tryz.underlying9 (by kernel_rfl) rfl (by decide) h4⟩, ⟨?_, ?_, ?_⟩, ?_⟩
  · obtain ⟨a, s, hv, -, -, -⟩ := laid_sentinel (h2 : laidMet _ _ _) g2 (by kernel_rfl) Tryz.underlying40 fo_row Tryz.underlying151 Tryz.underlying153 rfl rfl Tryz.underlying9 (by kernel_rfl) (by kernel_rfl)
    exact ⟨_, _, by simpa using World.var?_cell g2 hv 0⟩
  · obtain ⟨a, s, hv, -, -, -⟩ := laid_sentinel (h3 : laidMet _ _ _) g3 (by kernel_rfl) Tryz.underlying40 fo_row Tryz.underlying151 Tryz.underlying153 rfl rfl Tryz.underlying9 (by kernel_rfl) (by kernel_rfl)
    exact ⟨_, _, by simpa using World.var?_cell g3 hv 0⟩
  · exact cell_of_shapedOpen_int (t := 3) (zero := #[.int .i64 0]) hs (Nat.le_of_ble_eq_true (by kernel_rfl)) (by kernel_rfl) rfl (by kernel_rfl) (by kernel_rfl) Tryz.underlying3
  · obtain ⟨a0, a1, s0, s1, c0, c1, t0, t1, v0, v1, -, -, -, -, -, -, hne, b0, b1⟩ := laid_sentinels2 (h5 : laidMet _ _ _) g5 (by kernel_rfl) g6 (by kernel_rfl) Tryz.underlying40 fo_row Tryz.underlying151 Tryz.underlying153 rfl rfl Tryz.underlying9 (by kernel_rfl) (by kernel_rfl)
    exact ⟨a0, a1, by simpa using World.var?_cell g5 v0 0, by simpa using World.var?_cell g6 v1 0, fo_handle h (by rw [e6]; simp), Ne.symm hne, ⟨_, _, b0⟩, _, _, b1⟩

/-- What the laws know of the variables. -/
structure Fx (w : World) (pm pp : Addr) : Prop where
  gl : Gl w
  ge : Ge w
  er : Er w pm pp
theorem Fx.below {w w' : World} {pm pp : Addr} (h : Fx w pm pp) (hb : Below w.heap.size w w') : Fx w' pm pp := ⟨h.gl.below hb, h.ge.below hb, h.er.below hb⟩
/-- What Parse tells of a text. -/
def PsR (s : ByteArray) (v : Value) (w : World) : Prop := ∃ l k A c, paF rgt (splS s.data.toList) [] = (l, k) ∧ k ≤ 3 ∧ v = .tuple #[.slice A l.length c, .int .i64 (noE k)] ∧ Terms w A l.length (fun i => l.getD i ⟨0, 0, 0⟩) ∧ l.length ≤ c
set_option maxHeartbeats 2000000 in
theorem fo_Parse (s : ByteArray) (hs : s.size ≤ 1000) (w : World) (pm pp : Addr) (h : Fx w pm pp) : Calls Tryz.prog 7 #[.string s] w fun e w' => ∃ v, e = .returned v ∧ PsR s v w' ∧ Below w.heap.size w w' := by
  have K := Lib.hid (fo_parse s hs _ _ _ _ w h.gl h.ge h.er.many h.er.parts)
  have HN := Lib.hid fun k v w' (hb : Below w.heap.size w w') hv => fo_number pm pp k v w' (h.er.below hb) hv
  clear h
  go_enter Tryz.func7, Tryz.ntmps7
  go_wp2_with (fail)
  refine K.out.mono ?_
  rintro e w1 ⟨v, rfl, hR, hb⟩
  have T0 : Terms w1 none ([] : List Tm).length (fun i => ([] : List Tm).getD i ⟨0, 0, 0⟩) := ⟨fun i hi => by simp at hi, fun h0 => by simp at h0⟩
  rcases hR with ⟨l, A, c, hp, rfl, ht, hc⟩ | ⟨q, hp, rfl⟩ | ⟨hp, rfl⟩ | ⟨hp, rfl⟩
  · have KN := Lib.hid (HN.out 0 .nilIface w1 hb .none)
    have HT := Lib.hid ht
    have HP := Lib.hid hp
    have HC := Lib.hid hc
    clear hp ht hc T0
    go_wp2_with (go_at_call 14; refine KN.out.mono ?_; rintro e w2 ⟨rfl, hb2⟩)
    all_goals go_ret2
    all_goals exact ⟨_, rfl, ⟨l, 0, A, c, HP.out, by omega, rfl, HT.out.below hb2, HC.out⟩, below_call hb hb2⟩
  · have KN := Lib.hid (HN.out 1 _ w1 hb (.word q))
    have HP := Lib.hid hp
    have HT := Lib.hid T0
    clear hp T0
    go_wp2_with (go_at_call 14; refine KN.out.mono ?_; rintro e w2 ⟨rfl, hb2⟩)
    all_goals go_ret2
    all_goals exact ⟨_, rfl, ⟨[], 1, none, 0, HP.out, by omega, rfl, HT.out.below hb2, Nat.le_refl _⟩, below_call hb hb2⟩
  · have KN := Lib.hid (HN.out 2 _ w1 hb .many)
    have HP := Lib.hid hp
    have HT := Lib.hid T0
    clear hp T0
    go_wp2_with (go_at_call 14; refine KN.out.mono ?_; rintro e w2 ⟨rfl, hb2⟩)
    all_goals go_ret2
    all_goals exact ⟨_, rfl, ⟨[], 2, none, 0, HP.out, by omega, rfl, HT.out.below hb2, Nat.le_refl _⟩, below_call hb hb2⟩
  · have KN := Lib.hid (HN.out 3 _ w1 hb .parts)
    have HP := Lib.hid hp
    have HT := Lib.hid T0
    clear hp T0
    go_wp2_with (go_at_call 14; refine KN.out.mono ?_; rintro e w2 ⟨rfl, hb2⟩)
    all_goals go_ret2
    all_goals exact ⟨_, rfl, ⟨[], 3, none, 0, HP.out, by omega, rfl, HT.out.below hb2, Nat.le_refl _⟩, below_call hb hb2⟩
end Go.Proofs.YtaccamlplikkfaaGreatDoor
