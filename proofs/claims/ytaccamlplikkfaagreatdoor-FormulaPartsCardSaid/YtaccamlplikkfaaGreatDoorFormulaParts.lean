/- FormulaParts: a formula is what its parts need, and its last part: for every list of parts. -/
import Derived.Test.YtaccamlplikkfaaGreatDoorLaid
import Derived.Test.YtaccamlplikkfaaGreatDoorCards
import Derived.Test.YtaccamlplikkfaaGreatDoorTie
import Derived.Test.YtaccamlplikkfaaGreatDoorAw56
import Derived.Test.YtaccamlplikkfaaGreatDoorLeaf
import Derived.ChangeMaps5
namespace Go.Proofs.YtaccamlplikkfaaGreatDoor.formulaParts
open Go.RowKit Go.Deep
open Go.Proofs.YtaccamlplikkfaaGreatDoor
open Go.ChangeShapes Go.WideShapes Go.ChangeAt
set_option linter.unusedVariables false
set_option linter.unusedSimpArgs false
set_option maxRecDepth 100000
attribute [local go_sem] cell_set_ite Near.cell Near.frozen
attribute [-go_sem] run_string_add_if

/-- Where each of what is needed begins, and ends. -/
theorem steps_of {ts : Nat → Tm} {e : Nat} {w : World} {A : Option Addr} (h : PaP ts e w A) : ∃ (F : Nat → Value) (S : Nat → Nat), Vals w A (ndN (ts e).op) F ∧ S 0 = 0 ∧ S (ndN (ts e).op) = e ∧
    ∀ i, i < ndN (ts e).op → S i ≤ S (i + 1) ∧ S (i + 1) ≤ e ∧ Pc w (F i) (S i) (S (i + 1) - S i) ts ∧ rtB (from_ ts (S i)) (S (i + 1) - S i) = true := by
  obtain ⟨F, bg, ln, hv, hp, h0, h1, h2⟩ := h
  rcases nd_ways (ts e).op with hn | hn | hn
  · exact ⟨F, fun _ => 0, hv, rfl, (h0 hn).symm, fun i hi => by omega⟩
  · obtain ⟨g0, g1⟩ := h1 hn
    refine ⟨F, fun i => if i = 0 then 0 else e, hv, rfl, by rw [hn]; rfl, fun i hi => ?_⟩
    obtain rfl : i = 0 := by omega
    have := hp 0 (by omega)
    rw [g0, g1] at this
    exact ⟨Nat.zero_le _, Nat.le_refl _, this.1, this.2⟩
  · obtain ⟨g0, g1, g2⟩ := h2 hn
    have p0 := hp 0 (by omega)
    have p1 := hp 1 (by omega)
    rw [g0] at p0
    rw [g1] at p1
    refine ⟨F, fun i => if i = 0 then 0 else if i = 1 then ln 0 else e, hv, rfl, by rw [hn]; rfl, fun i hi => ?_⟩
    match i, (by omega : i < 2) with
    | 0, _ => exact ⟨Nat.zero_le _, by show ln 0 ≤ e; omega, by show Pc w (F 0) 0 (ln 0 - 0) ts; rw [Nat.sub_zero]; exact p0.1, by show rtB (from_ ts 0) (ln 0 - 0) = true; rw [Nat.sub_zero]; exact p0.2⟩
    | 1, _ =>
      have e1 : e - ln 0 = ln 1 := by omega
      exact ⟨by show ln 0 ≤ e; omega, Nat.le_refl _, by show Pc w (F 1) (ln 0) (e - ln 0) ts; rw [e1]; exact p1.1, by show rtB (from_ ts (ln 0)) (e - ln 0) = true; rw [e1]; exact p1.2⟩
theorem tl_more (ts : Nat → Tm) (m : Nat) : ∀ q, tlL ts (m + q) = tlL ts m ++ tlL (from_ ts m) q
  | 0 => by simp [tlL]
  | q + 1 => by
    rw [← Nat.add_assoc, tlL_succ, tl_more ts m q, tlL_succ, List.append_assoc]
    rfl
theorem tl_get (ts : Nat → Tm) (n i : Nat) (h : i < n) : (tlL ts n).getD i ⟨0, 0, 0⟩ = ts i := by
  unfold tlL
  rw [List.getD_eq_getElem?_getD, List.getElem?_map, List.getElem?_range h]
  rfl
/-- The cells of some parts, as they lie. -/
theorem cells_of {w : World} {b off n : Nat} {ts : Nat → Tm} (h : Terms w (some ⟨b, off, none⟩) n ts) : ∀ j u, ((tlL ts n).flatMap tmC)[j]? = some u → w.cell? ((⟨b, off, none⟩ : Addr).add j) = some u := by
  intro j u hj
  have ad : (⟨b, off, none⟩ : Addr).add j = ⟨b, off + j, none⟩ := by
    unfold Addr.add
    by_cases h : j = 0
    · subst h; rfl
    · simp [h]
  rw [ad]
  have hlen : ∀ l : List Tm, (l.flatMap tmC).length = l.length * 3 := by
    intro l
    induction l with
    | nil => rfl
    | cons t l ih => rw [List.flatMap_cons, List.length_append, ih, List.length_cons]; show 3 + _ = _; omega
  have hjl := (List.getElem?_eq_some_iff.1 hj).1
  rw [hlen, tlL_len] at hjl
  obtain ⟨i, r, hr, rfl⟩ : ∃ i r, r < 3 ∧ j = i * 3 + r := ⟨j / 3, j % 3, by omega, by omega⟩
  have hi : i < n := by omega
  obtain ⟨b', off', ea, hl, hc⟩ := h.2 (by omega)
  cases ea
  obtain ⟨e1, e2, e3⟩ := hc i hi
  obtain ⟨f1, f2, f3⟩ := flat_at (tlL ts n) i (by rw [tlL_len]; exact hi)
  rw [tl_get ts n i hi] at f1 f2 f3
  match r, hr with
  | 0, _ => rw [Nat.add_zero] at hj ⊢; rw [f1] at hj; rw [e1, hj]
  | 1, _ => rw [f2] at hj; rw [← Nat.add_assoc, e2, hj]
  | 2, _ => rw [f3] at hj; rw [← Nat.add_assoc, e3, hj]
theorem flat_one (t : Tm) : ([t] : List Tm).flatMap tmC = [.int .i64 t.op, .int .i64 t.a, .int .i64 t.b] := rfl
theorem flat_len (ts : Nat → Tm) (n : Nat) : ((tlL ts n).flatMap tmC).length = n * 3 := by
  induction n with
  | zero => rfl
  | succ n ih => rw [tlL_succ, List.flatMap_append, List.length_append, ih, flat_one]; show n * 3 + 3 = _; omega

set_option maxHeartbeats 8000000 in
theorem few (w : World) (A : Option Addr) (n c : Nat) (ts : Nat → Tm) (h : Terms w A n ts) (hc : n ≤ c) (hn : n ≤ 60) (pm pp : Addr) (f : Fx w pm pp) :
    Calls Tryz.prog 4 #[.slice A n c] w fun e w' => e = .returned (.bool true) ∧ Below w.heap.size w w' := by
  have A0 : Below w.heap.size w w := Below.refl _ _
  have KW := Lib.hid fun w' (hb : Below w.heap.size w w') => l56_awake w' pm pp (f.below hb)
  have KR := Lib.hid fun w' (hb : Below w.heap.size w w') => fo_right A n c ts w' (h.below hb)
  have t0 : decide ((60 : Int) < (n : Int)) = false := decide_eq_false (by omega)
  cases hr : rtB ts n with
  | false =>
    have KP := Lib.hid (fo_parts_no A n c ts w h hr)
    rw [hr] at KR
    clear h f hr
    go_enter Tryz.func4, Tryz.ntmps4
    go_wp2_with (first
      | (go_at_call 10; refine KP.out.mono ?_; rintro e w1 ⟨rfl, b1⟩)
      | (go_at_call 8; refine (KR.out w1 b1).mono ?_; rintro e w2 ⟨rfl, b2⟩; have B2 := below_call b1 b2)
      | (go_at_call 5; refine (KW.out w2 B2).mono ?_; rintro e w3 ⟨rfl, b3⟩))
    all_goals go_ret
    all_goals exact ⟨rfl, below_call B2 b3⟩
  | true =>
    obtain ⟨n40, n0, hmy⟩ := rt_all hr
    obtain ⟨e, rfl⟩ : ∃ e, n = e + 1 := ⟨n - 1, by omega⟩
    have KP := Lib.hid (fo_partsQ A e c ts w h hr hc)
    rw [hr] at KR
    have HT := Lib.hid h
    have hnl := nd_le (ts e).op
    have HMY := Lib.hid hmy
    obtain ⟨i0, hi0, hz0, hz1, hz2⟩ := info_parts infoTerm
    clear h f hr hmy
    go_enter Tryz.func4, Tryz.ntmps4
    go_wp2_with (first
      | (go_at_call 10; refine KP.out.mono ?_; rintro ev w1 ⟨P, pc, rfl, hq, b1⟩; have HQ := Lib.hid hq; clear hq)
      | (go_at_call 8; refine (KR.out w1 b1).mono ?_; rintro ev w2 ⟨rfl, b2⟩; have B2 := below_call b1 b2))
    obtain ⟨F, S, hv, s0, sn, hst⟩ := steps_of (HQ.out.below b2)
    have HV := Lib.hid hv
    have HS := Lib.hid hst
    have HS0 := Lib.hid s0
    have HSN := Lib.hid sn
    clear hv hst s0 sn HQ KP
    obtain ⟨nd, hnd⟩ : ∃ nd, ndN (ts e).op = nd := ⟨_, rfl⟩
    rw [hnd] at HV HS HSN hnl ⊢
    clear hnd
    have ML : 140737488355328 ≤ maxLen := by decide
    have D0 : Below w2.heap.size w2 w2 := Below.refl _ _
    go_loopw [4, 5, 23] (fun v j i wr => ∃ k : Nat, k ≤ nd ∧ i = .int .i64 k ∧ Below w2.heap.size w2 wr ∧ wr.ownsRow w2.heap.size 35 3 v (S k) ((tlL ts (S k)).flatMap tmC)) (fun _ _ i _ => nd - (intOf i).toNat)
    case atStart => exact ⟨0, Nat.zero_le _, rfl, D0, by rw [HS0.out]; exact World.ownsRow_nil _ _ _ _⟩
    case round =>
      obtain ⟨k, hk, rfl, A1, ho⟩ := hrel
      by_cases hlt : k < nd
      · obtain ⟨s1, s2, ⟨g, c1, hF, tg, hm⟩, hrg⟩ := HS.out k hlt
        obtain ⟨b, off, rfl, hb, hcc⟩ := HV.out (by omega)
        have x0 := (A1.cell (p := ⟨b, off + k, none⟩) hb).trans ((hcc k hlt).trans (congrArg some hF))
        obtain ⟨m, hmm⟩ : ∃ m, S (k + 1) - S k = m := ⟨_, rfl⟩
        rw [hmm] at tg hm hrg x0
        obtain ⟨m40, m0, _⟩ := rt_all hrg
        have hs1 : S (k + 1) = S k + m := by omega
        have tg1 := tg.below A1
        have KM := Lib.hid (fo_right (some ⟨g, 0, none⟩) m c1 (from_ ts (S k)) wr tg1)
        rw [hrg] at KM
        have HTL := Lib.hid (tl_more ts (S k) m)
        have HS1 := Lib.hid hs1
        have hsk : S k ≤ 40 := by omega
        have HO := Lib.hid ho
        have HG := Lib.hid tg1
        clear hcc hF tg tg1 hrg ho s1 s2 hmm hs1
        have one : ∀ l : List Tm, ∀ u ∈ l.flatMap tmC, u.oneCell' = true := fun l u hu => by
          obtain ⟨t, _, ht⟩ := List.mem_flatMap.1 hu
          simp only [tmC, List.mem_cons, List.not_mem_nil, or_false] at ht
          rcases ht with rfl | rfl | rfl <;> rfl
        have ONE := Lib.hid one
        clear one
        go_wp2_with (fail)
        refine KM.out.mono ?_
        rintro ev w3 ⟨rfl, b3⟩
        have x1 := (b3.cell (p := ⟨b, off + k, none⟩) (Nat.lt_of_lt_of_le hb A1.size)).trans x0
        have A3 := below_call A1 b3
        have HO3 := Lib.hid (row_below HO.out b3)
        have HG3 := Lib.hid (cells_of (HG.out.below b3))
        clear x0 HO HG KM b3
        go_wp2_with (at_builtin; refine wpList_append_own _ rfl _ _ 22 rfl w2.heap.size 35 i0 (.agg #[.int .i64 0, .int .i64 0, .int .i64 0]) 3 24 Tryz.underlying22 hi0 hz0 hz1 hz2 rfl (by decide) _ (S k) _ rfl HO3.out ⟨g, 0, none⟩ m c1 ((tlL (from_ ts (S k)) m).flatMap tmC) rfl (flat_len _ _) HG3.out (ONE.out _) (by omega) (by omega) A3.size ?_; intro v' w4 ho' hgr _)
        have HO4 := Lib.hid ho'
        have A4 := A3.grown hgr A3.size (fun q hq => (HO3.out.lt q hq).1)
        clear ho' hgr
        go_wp2_with (fail)
        go_roundw
        case rel => exact ⟨k + 1, by omega, by go_num, A4, by rw [HS1.out, HTL.out, List.flatMap_append]; exact HO4.out⟩
        case measure => simp [intOf]; omega
      · obtain rfl : k = nd := by omega
        rw [HSN.out] at ho
        obtain ⟨b, off, rfl, hb, hcell⟩ := HT.out.2 (by omega)
        obtain ⟨e1, e2, e3⟩ := hcell e (Nat.lt_succ_self e)
        have AW := below_call B2 A1
        have c0 := (AW.cell (p := ⟨b, off + e * 3, none⟩) hb).trans e1
        have c1 := (AW.cell (p := ⟨b, off + e * 3 + 1, none⟩) hb).trans e2
        have c2 := (AW.cell (p := ⟨b, off + e * 3 + 2, none⟩) hb).trans e3
        have HO := Lib.hid ho
        have HL := Lib.hid (show (tlL ts (e + 1)).flatMap tmC = (tlL ts e).flatMap tmC ++ [.int .i64 (ts e).op, .int .i64 (ts e).a, .int .i64 (ts e).b] by rw [tlL_succ, List.flatMap_append, flat_one])
        have HBD := Lib.hid (show ∀ t ∈ tlL ts (e + 1), t.b ≤ 9223372036854775807 from fun t ht => by
          obtain ⟨i, hi, rfl⟩ := List.mem_map.1 ht
          exact HT.out.1 i (List.mem_range.1 hi))
        have we : IntKind.i64.wrap (((e : Int) + 1) - 1) = (e : Int) := by rw [IntKind.wrap_i64]; omega
        have we2 : IntKind.i64.wrap (((e + 1 : Nat) : Int) - 1) = (e : Int) := by rw [IntKind.wrap_i64]; omega
        have t2 : decide ((k : Int) ≤ 2) = true := decide_eq_true (by omega)
        have t3 : decide (k ≤ 2) = true := decide_eq_true (by omega)
        clear ho hcell e1 e2 e3 hlt hk
        generalize (ts e).op = op at *
        generalize (ts e).a = a at *
        generalize (ts e).b = bb at *
        go_wp2_with (at_builtin; refine wpList_append_own _ rfl _ _ 22 rfl w2.heap.size 35 i0 (.agg #[.int .i64 0, .int .i64 0, .int .i64 0]) 3 24 Tryz.underlying22 hi0 hz0 hz1 hz2 rfl (by decide) _ e _ rfl (HO.out.alloc _) ⟨wr.heap.size, 0, none⟩ 1 1 [.int .i64 op, .int .i64 a, .int .i64 bb] rfl rfl (cells_three _ _ _ _ _) (by simp [Value.oneCell']) (by omega) (by omega) (by have := A1.size; simp; omega) ?_; intro v' w4 ho' hgr _)
        have A4 := (A1.alloc A1.size (.cells #[.int .i64 op, .int .i64 a, .int .i64 bb] 35)).grown hgr (by have := A1.size; simp; omega) (fun q hq => (HO.out.lt q hq).1)
        rw [← HL.out] at ho'
        obtain ⟨va, vc, rfl⟩ := row_form ho'
        obtain ⟨tv, hvc⟩ := terms_row ho' (tlL_len ts (e + 1)) HBD.out
        have AW4 := below_call B2 A4
        have KS := Lib.hid (l56_same va (some ⟨b, off, none⟩) (e + 1) vc c (fun i => (tlL ts (e + 1)).getD i ⟨0, 0, 0⟩) ts w4 tv (HT.out.below AW4) hvc hc (by omega) (fun i hi => tl_get ts (e + 1) i hi))
        have KW4 := Lib.hid fun w' (hb : Below w4.heap.size w4 w') => KW.out w' (below_call AW4 hb)
        clear ho' hgr tv HO KW
        go_wp2_with (first
          | (go_at_call 9; refine KS.out.mono ?_; rintro ev w5 ⟨rfl, b5⟩)
          | (go_at_call 5; refine (KW4.out w5 b5).mono ?_; rintro ev w6 ⟨rfl, b6⟩))
        all_goals go_ret
        all_goals exact ⟨rfl, below_call AW4 (below_call b5 b6)⟩
theorem walk (W : World) (A : Option Addr) (n c : Nat) (rs : List (List Value)) (hi : Rows [.int .i64, .int .i64, .int .i64] W A n rs) (hc : n ≤ c) (hr : n * 24 ≤ 140737488351232)
    (hL : laidMetH Tryz.prog Rows.formulaPartsRow.laid W) (hSh : W.ShapedOpen Tryz.prog) :
    Calls Tryz.prog 4 #[.slice A n c] W fun e w' => e = .returned (.bool true) ∧ Below W.heap.size W w' := by
  obtain ⟨ts, h⟩ := Terms.of_rows hi
  obtain ⟨G, E, pm, pp, hE⟩ := fo_tabs hL hSh (by kernel_rfl) (by kernel_rfl) (by kernel_rfl) (by kernel_rfl) (by kernel_rfl) (by kernel_rfl)
  have f : Fx W pm pp := ⟨G, E, hE⟩
  clear hi G E hE hL hSh
  have KW := Lib.hid (l56_awake W pm pp f)
  by_cases hn : 60 < n
  · have t0 : decide ((60 : Int) < (n : Int)) = true := decide_eq_true (by omega)
    clear hn h f hc hr
    go_enter Tryz.func4, Tryz.ntmps4
    go_wp2_with (go_at_call 5; refine KW.out.mono ?_; rintro e w' ⟨rfl, hb⟩)
    all_goals go_ret
    all_goals exact ⟨rfl, hb⟩
  · exact few W A n c ts h hc (by omega) pm pp f
noncomputable def wit (os : Os) : World := (World.doorLaid Tryz.prog 122 os).layVars Tryz.prog (Rows.formulaPartsRow.laid.filter fun x => x.2.handleName?.isNone)
theorem door_met (os : Os) (args : Array Value) : laidMetH Tryz.prog Rows.formulaPartsRow.laid ((wit os).forCall (fun _ _ => 0) ⟨#[], args, []⟩).memory :=
  (laidMetH_over (w := World.doorLaid Tryz.prog 122 os) (by kernel_rfl) (by kernel_rfl) (by kernel_rfl)).of_heap (by simp [wit, World.memory, World.forCall, Input.heap])
set_option maxRecDepth 100000 in
theorem lifted (os : Os) (started : os.Started) (H : Type) (enc : TypeId × Value → H) :
    ReturnsInHanded {} Tryz.checked os 4 .any (fun w args => (Rows.formulaPartsSpec.pre enc Tryz.prog Tryz.f4 [] false w args ∧ laidMetH Tryz.prog Rows.formulaPartsRow.laid w) ∧ sizedMet enc Tryz.prog Tryz.f4 (OpenSpec.ofChange Rows.formulaPartsSpec) false w args) (Rows.formulaPartsSpec.post enc Tryz.prog Tryz.f4 false true false false) := by
  refine law_lift_laidS (laid := Rows.formulaPartsRow.laid) started (by kernel_rfl) Tryz.func4 rfl rfl ?_ (by kernel_rfl)
    (ChangeSpec.witness_shaped (enc := enc) (C := Tryz.checked) (os := os) (X := fun w _ => laidMetH Tryz.prog Rows.formulaPartsRow.laid w) false (wit os) #[.slice none 0 0] 8 (World.layVars_os _ _ _) (World.shaped_of_ZipB (by kernel_rfl) (by kernel_rfl)) (by kernel_rfl) (by kernel_rfl) (by kernel_rfl) (door_met os _)) ?_
  · intro ds hl
    match ds, hl with
    | [_], _ => exact ⟨rfl, rfl, rfl⟩
  · intro W base args ds p hval hA hlt hwt hL hSh
    rw [Tryz.params4] at hA hval hwt
    obtain ⟨v0, vs0, d0, ds0, p0, q0, hargs, rfl, rfl, h0, r0⟩ := trodAll_cons hA
    obtain ⟨rfl, rfl, rfl⟩ := trodAll_nil r0
    obtain rfl : args = #[v0] := by cases args; simp_all
    have wt0 : ∀ n ∈ d0.weights Tryz.prog 22, n ≤ reachBytes := fun n hn => by
      have := List.all_eq_true.1 hwt n (DataW.weights_mem_each (j := 0) (t := 22) (d := d0) rfl rfl n hn)
      simpa using this
    have lt0 : ∀ x ∈ p0, x.block < W.heap.size := fun x hx => hlt x (by simp [hx])
    obtain ⟨A0, n0, c0, xs0, rfl, hi0, hc0, hr0⟩ := open_rows_arg (nb := 24) 5 [.int .i64, .int .i64, .int .i64] Tryz.underlying22 (by kernel_rfl) (by kernel_rfl) (by decide) (by kernel_rfl) (hval 0 22 v0 rfl rfl) h0 lt0 wt0
    exact walk W A0 n0 c0 xs0 hi0 hc0 hr0 hL hSh

theorem over : Rows.formulaPartsRow.holds Tryz.pinned (OpenSpec.ofChange Rows.formulaPartsSpec) :=
  OpenClaim.holds_of_wide 4 Tryz.f4 rfl rfl rfl rfl rfl rfl rfl ⟨rfl, rfl, rfl, rfl, rfl⟩ rfl rfl rfl rfl rfl (by kernel_rfl) Tryz.func4 (by kernel_rfl)
    (of_decide_eq_true (by kernel_rfl)) (by unfold Func.isWrapper; first | (rw [if_pos (by decide +kernel)]; kernel_rfl) | (rw [if_neg (by decide +kernel)]; exact ⟨rfl, rfl⟩))
    (fun os started H enc _ => lifted os started H enc)

theorem plain (f : FuncId) (fn : Func) (hf : Tryz.pinned.checked.prog.funcNamed "pinchcock/pinchcocklaw56.FormulaParts" = some f) (hfn : Tryz.pinned.checked.prog.funcs[f]? = some fn) :
    true = Tryz.pinned.checked.prog.looks [] ∧ ∀ (j : Nat) t, fn.params[j]? = some t → Tryz.pinned.checked.prog.wantsStandIn t = false := by
  obtain rfl : f = 4 := Option.some.inj ((show Tryz.prog.funcNamed "pinchcock/pinchcocklaw56.FormulaParts" = some 4 by kernel_rfl).symm.trans hf) |>.symm
  obtain rfl : fn = Tryz.f4 := (Option.some.inj (Tryz.func4.symm.trans hfn)).symm
  refine ⟨by kernel_rfl, fun j t ht => ?_⟩
  rw [Tryz.params4] at ht
  have hm : t ∈ [22] := by simpa using Array.mem_of_getElem? ht
  have hall : ([22].all fun u => !Tryz.prog.wantsStandIn u) = true := by kernel_rfl
  exact (show Tryz.prog.wantsStandIn t = false by simpa using List.all_eq_true.1 hall t hm)
theorem proved : Rows.FormulaPartsCardSaid :=
  Claim7.holds_tied_plain_at .later [] _ _ _ _ over (fun _ h => by cases h) (by kernel_rfl) (fun _ h => by cases h) formulaParts_row_tie rfl ⟨rfl, rfl⟩ (by kernel_rfl) rfl plain (by kernel_rfl)
#print axioms proved
end Go.Proofs.YtaccamlplikkfaaGreatDoor.formulaParts
