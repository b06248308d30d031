/- From a walk of a law whose row lists package-level tables ('laid') to its row: as Lift, with the tables' facts handed to the walk. And what a listed table of strings, or of numbers, says of the world. -/
import Derived.Test.YtaccamlplikkfaaGreatDoorLift
import Derived.LaidMore
import Derived.Stop.Joined
import Derived.Lib.LaidTab
import Derived.ChangeArms
namespace Go.Proofs.YtaccamlplikkfaaGreatDoor
set_option maxRecDepth 100000
open Go.ChangeShapes Go.WideShapes Go.ChangeAt Go.RowKit
set_option linter.unusedVariables false
set_option linter.unusedSimpArgs false

theorem law_lift_laid {H : Type} {enc : TypeId × Value → H} {os : Os} (started : os.Started) {f : FuncId} {fn : Func} {s : ChangeSpec} {laid : List (String × DataW Unit)}
    (noInit : Tryz.prog.inits.idxOf? f = none) (hfn : Tryz.prog.funcs[f]? = some fn) (hrt : fn.resultTypes = #[4]) (hsv : s.vars = [])
    (hspec : ∀ ds : List (DataW H), ds.length = fn.params.toList.length → (s.fn H ds).results = [.lit (.bool true)] ∧ (s.fn H ds).args = ds ∧ (s.fn H ds).vars = [])
    (hread : (fn.params.toList.all fun t => Tryz.prog.readableRec t && decide (t < Tryz.prog.types.size)) = true)
    (witness : ∃ (w : World) (tape : Tape) (i : Input), w.os = os ∧ (w.forCall tape i).Shaped Tryz.checked.prog ∧ i.vars = [] ∧ Input.okWide Tryz.checked.prog (w.forCall tape i) .any w.heap.size f i ∧
      ((s.pre enc Tryz.checked.prog fn [] false (w.forCall tape i).memory i.args ∧ laidMetH Tryz.prog laid (w.forCall tape i).memory) ∧ sizedMet enc Tryz.checked.prog fn (OpenSpec.ofChange s) false (w.forCall tape i).memory i.args) ∧
      ({} : Assume).holds Tryz.checked.prog (lone (Frame.enter Tryz.checked.prog f i.args .normal) [] (w.forCall tape i)))
    (walk : ∀ (W : World) (base : Nat) (args : Array Value) (ds : List (DataW H)) (p : List MemPlace),
      (∀ (j : Nat) t v, fn.params[j]? = some t → args[j]? = some v → Value.okWide Tryz.prog W .any base t v) →
      DataW.TrodAll enc Tryz.prog W 0 (fun _ => true) true fn.params.toList args.toList ds p → (∀ x ∈ p, x.block < W.heap.size) →
      (DataW.weightsEach Tryz.prog fn.params.toList ds).all (· ≤ reachBytes) = true → laidMetH Tryz.prog laid W →
      Calls Tryz.prog f args W fun e W' => e = .returned (.bool true) ∧ Below W.heap.size W W') :
    ReturnsInHanded {} Tryz.checked os f .any (fun w args => (s.pre enc Tryz.prog fn [] false w args ∧ laidMetH Tryz.prog laid w) ∧ sizedMet enc Tryz.prog fn (OpenSpec.ofChange s) false w args) (s.post enc Tryz.prog fn false true false false) := by
  refine returnsInHanded_of_change_and (C := Tryz.checked) (X := fun w _ => laidMetH Tryz.prog laid w) (fun _ _ _ hh h => h.of_heap hh) Tryz.own started noInit hfn witness ?_
  intro W base args ds gs before hval hW _ hsz hL _
  have hW' := hW
  obtain ⟨p, q, hA, hV, rfl, hfz, hnd⟩ := hW
  rw [hsv] at hV
  obtain ⟨rfl, rfl⟩ := trodVars_none hV
  have hlt : ∀ x ∈ p, x.block < W.heap.size := fun x hx => hW'.lt x (List.mem_append_left _ hx)
  have hlen : ds.length = fn.params.toList.length := by
    have : ∀ (ts : List TypeId) (vs : List Value) (ds : List (DataW H)) (p : List MemPlace), DataW.TrodAll enc Tryz.prog W 0 (fun _ => true) true ts vs ds p → ds.length = ts.length := by
      intro ts
      induction ts with
      | nil => intro vs ds p h; cases vs <;> cases ds <;> simp_all [DataW.TrodAll]
      | cons t ts ih =>
        intro vs ds p h
        obtain ⟨v, vs', d, ds', p, q, rfl, rfl, rfl, _, h1⟩ := trodAll_cons h
        simp [ih _ _ _ h1]
    exact this _ _ _ _ hA
  have hvt : s.plain.varTypes Tryz.checked.prog = [] := by
    simp [ChangeSpec.plain, DataSpec.varTypes, hsv]
  have hsz2 : (DataW.weightsEach Tryz.prog fn.params.toList ds).all (· ≤ reachBytes) = true := by
    have h := hsz
    rw [hvt, List.append_nil, List.append_nil] at h
    exact h
  refine (walk W base args ds p hval hA hlt hsz2 hL).mono fun e W' ⟨he, hb⟩ => ?_
  subst he
  obtain ⟨e1, e2, e3⟩ := hspec ds hlen
  refine ⟨_, rfl, post_of_below (pa := p) (pv := []) hW' ?_ ?_ ?_ rfl hb (ok_one hrt rfl (okWide_bool_mk Tryz.underlying4 _))⟩
  · intro b sp hd
    rw [List.append_nil, e1, hrt]
    exact trodAll_cons_mk (shut_bool Tryz.underlying4 _) trodAll_mk0
  · intro sp hsp
    rw [List.append_nil, e2]
    exact trodAll_carry Tryz.laidOut hb hread hA hlt (fun x hx => hsp x (List.mem_append_left _ hx))
  · intro sp _
    rw [List.append_nil, e3, hsv]
    rfl

/-- A listed table of strings: its cells, in a world. -/
def Words (w : World) (g : Nat) (ss : List (List UInt8)) : Prop :=
  g < w.heap.size ∧ ∀ i, i < ss.length → w.cell? ⟨g, i, none⟩ = some (.string ⟨(ss.getD i []).toArray⟩)
theorem Words.below {w w' : World} {g : Nat} {ss : List (List UInt8)} (h : Words w g ss) (hb : Below w.heap.size w w') : Words w' g ss :=
  ⟨Nat.lt_of_lt_of_le h.1 hb.size, fun i hi => (hb.cell (p := ⟨g, i, none⟩) h.1).trans (h.2 i hi)⟩
theorem Words.at_ {w : World} {g : Nat} {ss : List (List UInt8)} (h : Words w g ss) (i : Nat) (s : List UInt8) (hs : ss[i]? = some s) : w.cell? ⟨g, i, none⟩ = some (.string ⟨s.toArray⟩) := by
  obtain ⟨hi, e⟩ := List.getElem?_eq_some_iff.1 hs
  rw [h.2 i hi, List.getD_eq_getElem?_getD, hs]; rfl

/-- A listed table of numbers: its cells, in a world. -/
def TabAt (w : World) (g : Nat) (k : IntKind) (zs : List Int) : Prop :=
  g < w.heap.size ∧ ∀ i, i < zs.length → w.cell? ⟨g, i, none⟩ = some (.int k (zs.getD i 0))
theorem TabAt.below {w w' : World} {g : Nat} {k : IntKind} {zs : List Int} (h : TabAt w g k zs) (hb : Below w.heap.size w w') : TabAt w' g k zs :=
  ⟨Nat.lt_of_lt_of_le h.1 hb.size, fun i hi => (hb.cell (p := ⟨g, i, none⟩) h.1).trans (h.2 i hi)⟩
theorem TabAt.at_ {w : World} {g : Nat} {k : IntKind} {zs : List Int} (h : TabAt w g k zs) (i : Nat) (z : Int) (hs : zs[i]? = some z) : w.cell? ⟨g, i, none⟩ = some (.int k z) := by
  obtain ⟨hi, e⟩ := List.getElem?_eq_some_iff.1 hs
  rw [h.2 i hi, List.getD_eq_getElem?_getD, hs]; rfl

theorem cell_lt {w : World} {g i : Nat} {v : Value} (h : w.cell? ⟨g, i, none⟩ = some v) : g < w.heap.size := by
  rcases Nat.lt_or_ge g w.heap.size with h2 | h2
  · exact h2
  · unfold World.cell? at h
    rw [Array.getElem?_eq_none h2] at h
    cases h

section
variable {P : Program} {W : World}
/-- The head of a row's list, a table of strings. -/
theorem words_of {name : String} {ss : List (List UInt8)} {rest : List (String × DataW Unit)} {g : Nat} {t e : TypeId} {n : Nat}
    (hg : P.globalNamed name = some g) (hty : (P.globals[g]?).map (·.type) = some t) (ht : P.underlying t = some (.array n e)) (he : P.underlying e = some .string) (hce : P.cellsOf e = 1) (hn : n = ss.length) (h0 : 0 < n)
    (h : laidMet P ((name, .agg (ss.map fun s => .lit (.string s))) :: rest) W) : Words W g ss := by
  obtain ⟨ps, ⟨g', t', cs, fuel, p, q, hg', ht', hv, hd, _, _⟩, _⟩ := h
  obtain rfl := Option.some.inj (hg.symm.trans hg')
  obtain rfl := Option.some.inj (hty.symm.trans ht')
  obtain ⟨xs, m1, rfl, hx, hlen, hn3, hel⟩ := DataW.trod_array ht hd
  simp only [Prod.mk.injEq, DataW.agg.injEq] at hx
  have hx1 := hx.1
  have hc : ∀ i, i < ss.length → W.cell? ⟨g, i, none⟩ = some (.string ⟨(ss.getD i []).toArray⟩) := by
    intro i hi
    have hxi := hel i (by omega)
    obtain ⟨x, hxg⟩ : ∃ x, xs[i]? = some x := ⟨xs[i]'(by omega), List.getElem?_eq_getElem (by omega)⟩
    rw [hxg] at hxi
    obtain ⟨sb, e1, e2, _⟩ := DataW.trod_string he hxi
    have e3 : (xs.map (·.1))[i]? = some (.lit (.string (ss.getD i []))) := by
      rw [← hx1]
      simp [List.getD_eq_getElem?_getD, hi]
    rw [List.getElem?_map, hxg] at e3
    simp only [Option.map_some, Option.some.injEq, e2, DataW.lit.injEq, Lit.string.injEq] at e3
    have := World.var?_cell hg hv i
    rw [this]
    rw [hce, Nat.mul_one] at e1
    have hi2 : cs.toList[i]? = some (.string sb) := by
      have h3 : ((cs.toList.drop i).take 1)[0]? = some (.string sb) := by rw [e1]; rfl
      rw [List.getElem?_take_of_lt (by omega), List.getElem?_drop] at h3
      simpa using h3
    rw [← Array.getElem?_toList, hi2, ← e3]
  exact ⟨cell_lt (hc 0 (by omega)), hc⟩
/-- The head of a row's list, a table of numbers. -/
theorem tab_of {name : String} {k : IntKind} {zs : List Int} {rest : List (String × DataW Unit)} {g : Nat} {t e : TypeId} {n : Nat}
    (hg : P.globalNamed name = some g) (hty : (P.globals[g]?).map (·.type) = some t) (ht : P.underlying t = some (.array n e)) (he : P.underlying e = some (.int k)) (hce : P.cellsOf e = 1) (hct : P.cellsOf t = n) (h0 : 0 < zs.length)
    (h : laidMet P ((name, Lib.tabData k zs) :: rest) W) : TabAt W g k zs := by
  have hT := Lib.tabIs_of_head hg hty ht he hce hct h
  exact ⟨cell_lt (hT.cell hg 0 h0), fun i hi => hT.cell hg i hi⟩
end
end Go.Proofs.YtaccamlplikkfaaGreatDoor
