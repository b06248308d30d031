/- As Laid's law_lift_laid, with the world's shape handed to the walk too: what a package-level variable that the row does not list holds. -/
import Derived.Test.YtaccamlplikkfaaGreatDoorLaid
import Derived.Lay
import Derived.LaidSub
import Derived.LaidHandle
namespace Go.Proofs.YtaccamlplikkfaaGreatDoor
set_option maxRecDepth 100000
open Go.ChangeShapes Go.WideShapes Go.ChangeAt Go.RowKit
set_option linter.unusedVariables false
set_option linter.unusedSimpArgs false

theorem law_lift_laidS {H : Type} {enc : TypeId × Value → H} {os : Os} (started : os.Started) {f : FuncId} {fn : Func} {s : ChangeSpec} {laid : List (String × DataW Unit)}
    (noInit : Tryz.prog.inits.idxOf? f = none) (hfn : Tryz.prog.funcs[f]? = some fn) (hrt : fn.resultTypes = #[4]) (hsv : s.vars = [])
    (hspec : ∀ ds : List (DataW H), ds.length = fn.params.toList.length → (s.fn H ds).results = [.lit (.bool true)] ∧ (s.fn H ds).args = ds ∧ (s.fn H ds).vars = [])
    (hread : (fn.params.toList.all fun t => Tryz.prog.readableRec t && decide (t < Tryz.prog.types.size)) = true)
    (witness : ∃ (w : World) (tape : Tape) (i : Input), w.os = os ∧ (w.forCall tape i).Shaped Tryz.checked.prog ∧ i.vars = [] ∧ Input.okWide Tryz.checked.prog (w.forCall tape i) .any w.heap.size f i ∧
      ((s.pre enc Tryz.checked.prog fn [] false (w.forCall tape i).memory i.args ∧ laidMetH Tryz.prog laid (w.forCall tape i).memory) ∧ sizedMet enc Tryz.checked.prog fn (OpenSpec.ofChange s) false (w.forCall tape i).memory i.args) ∧
      ({} : Assume).holds Tryz.checked.prog (lone (Frame.enter Tryz.checked.prog f i.args .normal) [] (w.forCall tape i)))
    (walk : ∀ (W : World) (base : Nat) (args : Array Value) (ds : List (DataW H)) (p : List MemPlace),
      (∀ (j : Nat) t v, fn.params[j]? = some t → args[j]? = some v → Value.okWide Tryz.prog W .any base t v) →
      DataW.TrodAll enc Tryz.prog W 0 (fun _ => true) true fn.params.toList args.toList ds p → (∀ x ∈ p, x.block < W.heap.size) →
      (DataW.weightsEach Tryz.prog fn.params.toList ds).all (· ≤ reachBytes) = true → laidMetH Tryz.prog laid W → W.ShapedOpen Tryz.prog →
      Calls Tryz.prog f args W fun e W' => e = .returned (.bool true) ∧ Below W.heap.size W W') :
    ReturnsInHanded {} Tryz.checked os f .any (fun w args => (s.pre enc Tryz.prog fn [] false w args ∧ laidMetH Tryz.prog laid w) ∧ sizedMet enc Tryz.prog fn (OpenSpec.ofChange s) false w args) (s.post enc Tryz.prog fn false true false false) := by
  refine returnsInHanded_of_calls (C := Tryz.checked) Tryz.own started noInit witness ?_
  intro w0 tape i _ hsh _ hok hpre _
  obtain ⟨_, _, _, fn', hfn', _, _, _, _, hval⟩ := hok
  obtain rfl : fn = fn' := Option.some.inj (hfn.symm.trans hfn')
  obtain ⟨⟨⟨ds, gs, before, hW0, hc⟩, hL0⟩, hz⟩ := hpre
  have hW : DataW.Whole enc Tryz.prog fn.params.toList s.vars false (w0.forCall tape i) i.args.toList ds gs before := DataW.Whole.of_heap (w' := w0.forCall tape i) (by rfl) hW0
  have hL : laidMetH Tryz.prog laid (w0.forCall tape i) := hL0.of_heap (by rfl)
  have hsz : (DataW.weightsEach Tryz.prog (fn.params.toList ++ s.plain.varTypes Tryz.checked.prog) (ds ++ gs)).all (· ≤ reachBytes) = true := hz.weights hW0
  suffices h : Calls Tryz.prog f i.args (w0.forCall tape i) fun e W' => ∃ v, e = .returned v ∧ s.post enc Tryz.prog fn false true false false (w0.forCall tape i) i.args v W' by
    refine h.mono fun e W' ⟨v, he, hp⟩ => ?_
    subst he
    exact ChangeSpec.post_blind hp
  generalize w0.forCall tape i = W at *
  generalize i.args = args at *
  generalize w0.heap.size = base at *
  have hW' := hW
  obtain ⟨p, q, hA, hV, rfl, hfz, hnd⟩ := hW
  rw [hsv] at hV
  obtain ⟨rfl, rfl⟩ := trodVars_none hV
  have hlt : ∀ x ∈ p, x.block < W.heap.size := fun x hx => hW'.lt x (List.mem_append_left _ hx)
  have hlen : ds.length = fn.params.toList.length := by
    have : ∀ (ts : List TypeId) (vs : List Value) (ds : List (DataW H)) (p : List MemPlace), DataW.TrodAll enc Tryz.prog W 0 (fun _ => true) true ts vs ds p → ds.length = ts.length := by
      intro ts
      induction ts with
      | nil => intro vs ds p h; cases vs <;> cases ds <;> simp_all [DataW.TrodAll]
      | cons t ts ih =>
        intro vs ds p h
        obtain ⟨v, vs', d, ds', p, q, rfl, rfl, rfl, _, h1⟩ := trodAll_cons h
        simp [ih _ _ _ h1]
    exact this _ _ _ _ hA
  have hvt : s.plain.varTypes Tryz.checked.prog = [] := by
    simp [ChangeSpec.plain, DataSpec.varTypes, hsv]
  have hsz2 : (DataW.weightsEach Tryz.prog fn.params.toList ds).all (· ≤ reachBytes) = true := by
    have h := hsz
    rw [hvt, List.append_nil, List.append_nil] at h
    exact h
  refine (walk W base args ds p hval hA hlt hsz2 hL hsh).mono fun e W' ⟨he, hb⟩ => ?_
  subst he
  obtain ⟨e1, e2, e3⟩ := hspec ds hlen
  refine ⟨_, rfl, post_of_below (pa := p) (pv := []) hW' ?_ ?_ ?_ rfl hb (ok_one hrt rfl (okWide_bool_mk Tryz.underlying4 _))⟩
  · intro b sp hd
    rw [List.append_nil, e1, hrt]
    exact trodAll_cons_mk (shut_bool Tryz.underlying4 _) trodAll_mk0
  · intro sp hsp
    rw [List.append_nil, e2]
    exact trodAll_carry Tryz.laidOut hb hread hA hlt (fun x hx => hsp x (List.mem_append_left _ hx))
  · intro sp _
    rw [List.append_nil, e3, hsv]
    rfl

/-- Variables laid one and all over a world. -/
theorem laidMet_over {P : Program} {w : World} {l : List (String × DataW Unit)} (hf : w.layFits P l [] = true) (hi : w.layIfaces P l (w.layVars P l) = true) : laidMet P l (w.layVars P l) := by
  have inL : ∀ x ∈ l, (l.map (·.1)).contains x.1 = true := fun x hx => List.contains_iff_mem.2 (List.mem_map_of_mem hx)
  have a1 : (l.filter fun x => (l.map (·.1)).contains x.1) = l := List.filter_eq_self.2 inL
  have a2 : (l.filter fun x => !(l.map (·.1)).contains x.1) = [] := List.filter_eq_nil_iff.2 fun x hx => by rw [inL x hx]; simp
  exact laidMet_layVars (w0 := w) (l.map (·.1)) [] (by rw [a1]) (by rw [a1]; exact hf) (by rw [a1]; exact hi) (by rw [a2]; exact LaidIn.none)
theorem laidMetH_over {P : Program} {w : World} {l : List (String × DataW Unit)} (hf : w.layFits P (l.filter fun x => x.2.handleName?.isNone) [] = true)
    (hi : w.layIfaces P (l.filter fun x => x.2.handleName?.isNone) (w.layVars P (l.filter fun x => x.2.handleName?.isNone)) = true)
    (hh : (l.filter fun x => x.2.handleName?.isSome).all (handleAtB P (w.layVars P (l.filter fun x => x.2.handleName?.isNone))) = true) : laidMetH P l (w.layVars P (l.filter fun x => x.2.handleName?.isNone)) :=
  laidMetH_iff.2 ⟨laidMet_over hf hi, handlesMet_of_B hh⟩
end Go.Proofs.YtaccamlplikkfaaGreatDoor
