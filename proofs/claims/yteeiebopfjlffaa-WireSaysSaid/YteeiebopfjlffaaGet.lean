/- Contract: Get. -/
import Derived.Test.YteeiebopfjlffaaPut
import Derived.Laws.AppendOwn
import Derived.WalkMore
namespace Go.Proofs.Yteeiebopfjlffaa
open Go.RowKit Ieee
set_option linter.unusedVariables false
set_option linter.unusedSimpArgs false
set_option maxRecDepth 100000

theorem infoStep : (Try.prog.info? 35).map (fun i => (i.zero, i.size, i.bytes)) = some (some (.agg #[.float .f64 0, .float .f64 0, .float .f64 0, .float .f64 0, .bool false, .int .i64 0, .bool false, .bool false, .string ⟨#[]⟩]), 9, 80) := by kernel_rfl
theorem row_form {W : World} {base size n : Nat} {e : TypeId} {v : Value} {xs : List Value} (h : W.ownsRow base e size v n xs) : ∃ A c, v = .slice A n c ∧ n ≤ c := by
  rcases h.2 with ⟨rfl, rfl⟩ | ⟨g, cap, cur, rfl, _, _, hcap, _⟩
  · exact ⟨_, _, rfl, Nat.le_refl _⟩
  · exact ⟨_, _, rfl, hcap⟩
theorem stC_len (x : Sp) : (stC x).length = 9 := rfl
theorem stf_len (l : List Sp) : (l.flatMap stC).length = l.length * 9 := by
  induction l with
  | nil => rfl
  | cons t l ih => rw [List.flatMap_cons, List.length_append, ih, List.length_cons, stC_len]; omega
theorem stf_at : ∀ (l : List Sp) (i j : Nat), i < l.length → j < 9 → (l.flatMap stC)[i * 9 + j]? = (stC (l.getD i ⟨noR, false, ⟨#[]⟩⟩))[j]?
  | [], _, _, h, _ => absurd h (by simp)
  | t :: l, 0, j, _, hj => by
    rw [List.flatMap_cons, List.getElem?_append_left (by rw [stC_len]; omega), Nat.zero_mul, Nat.zero_add]
    rfl
  | t :: l, i + 1, j, h, hj => by
    have ih := stf_at l i j (by simpa using h) hj
    rw [List.flatMap_cons, List.getElem?_append_right (by rw [stC_len]; omega), stC_len, show (i + 1) * 9 + j - 9 = i * 9 + j by omega, ih]
    rfl
theorem stp_row {W : World} {base n c : Nat} {A : Option Addr} {l : List Sp} (h : W.ownsRow base 35 9 (.slice A n c) n (l.flatMap stC)) (hl : l.length = n) (hb : ∀ t ∈ l, wfX t) : Stp W A n (fun i => l.getD i ⟨noR, false, ⟨#[]⟩⟩) := by
  subst hl
  refine ⟨fun i hi => ?_, fun h0 => ?_⟩
  · show wfX (l.getD i _)
    rw [List.getD_eq_getElem?_getD, List.getElem?_eq_getElem hi]
    exact hb _ (List.getElem_mem hi)
  · rcases h.2 with ⟨_, e⟩ | ⟨g, cap, cur, e, hg, hc, _⟩
    · omega
    · cases e
      have hk := h.cells (g := g) rfl
      refine ⟨g, 0, rfl, (Array.getElem?_eq_some_iff.1 hc).1, fun i hi j hj => ?_⟩
      have ad : ∀ j, (⟨g, 0, none⟩ : Addr).add j = ⟨g, j, none⟩ := fun j => by
        unfold Addr.add
        by_cases h : j = 0
        · subst h; rfl
        · simp [h]
      have e1 := stf_at l i j hi hj
      have hlt : j < (stC (l.getD i ⟨noR, false, ⟨#[]⟩⟩)).length := by rw [stC_len]; exact hj
      rw [List.getElem?_eq_getElem hlt] at e1
      have h1 := hk _ _ e1
      rw [ad] at h1
      rw [Nat.zero_add, h1, List.getElem?_eq_getElem hlt]
theorem spL_getD (l : List Sp) : spL (fun i => l.getD i ⟨noR, false, ⟨#[]⟩⟩) l.length = l := by
  apply List.ext_getElem
  · simp [spL]
  · intro i h1 h2
    simp [spL, List.getElem?_eq_getElem h2]
theorem stV_wfX (s : List UInt8) : wfX (stV s) := by
  refine ⟨stV_wf s, ?_⟩
  unfold stV
  have ht : ∀ s, (tnV s).size ≤ 64 := fun s => by
    unfold tnV
    cases hB : tnB s
    · unfold tnB at hB
      simp only [Bool.or_eq_false_iff, decide_eq_false_iff_not, Nat.not_lt] at hB
      show (((rdR s 1).take (rdV s 1)).toArray).size ≤ 64
      rw [List.size_toArray, List.length_take]
      omega
    · exact Nat.zero_le _
  have hk : ∀ s, (0 : Int) ≤ (rwV s).key ∧ (rwV s).key < 256 := fun s => by
    unfold rwV
    simp only
    have := rdV_lt (rdR (reR (reR (reR (reR s)))) 1) 1
    omega
  have ML : 64 ≤ maxLen := by decide
  by_cases h0 : rdV s 1 = 0
  · rw [if_pos h0]
    have := hk (rdR s 1)
    exact ⟨by show _ ≤ (rwV (rdR s 1)).key; omega, by show (rwV (rdR s 1)).key ≤ _; omega, Nat.zero_le _⟩
  · rw [if_neg h0]
    by_cases h1 : rdV s 1 = 1
    · rw [if_pos h1]
      exact ⟨by show _ ≤ (0 : Int); omega, by show (0 : Int) ≤ _; omega, Nat.le_trans (ht _) ML⟩
    · rw [if_neg h1]
      exact ⟨by show _ ≤ (0 : Int); omega, by show (0 : Int) ≤ _; omega, Nat.zero_le _⟩
theorem stR_len (s : List UInt8) : (stR s).length ≤ s.length := by
  have reLen : ∀ l, (reR l).length ≤ l.length := fun l => by
    unfold reR
    split
    · have := rdR_len l 1; have := rdR_len (rdR l 1) 4; have := rdR_len (rdR (rdR l 1) 4) 4; omega
    · exact rdR_len l 1
  have tn : ∀ l, (tnR l).length ≤ l.length := fun l => by
    unfold tnR
    have := rdR_len l 1
    split
    · exact this
    · rw [List.length_drop]; omega
  have rw' : ∀ l, (rwR l).length ≤ l.length := fun l => by
    unfold rwR
    have := reLen l
    have := reLen (reR l)
    have := reLen (reR (reR l))
    have := reLen (reR (reR (reR l)))
    have := rdR_len (reR (reR (reR (reR l)))) 1
    have := rdR_len (rdR (reR (reR (reR (reR l)))) 1) 1
    omega
  have h1 := rdR_len s 1
  unfold stR
  split
  · exact Nat.le_trans (rw' _) h1
  split
  · exact Nat.le_trans (tn _) h1
  · exact h1
theorem Box.keeps {w w' : World} {g : Nat} {row : Option Nat} {cs : Array Value} (h : Box w g cs) (hg : w.grownBy w' row) (hne : some g ≠ row) : Box w' g cs := by
  have hb := hg.block g h.1 hne
  exact ⟨Nat.lt_of_lt_of_le h.1 hg.size, fun i => (World.cell?_of_block (a := ⟨g, i, none⟩) hb).trans (h.2.1 i), fun i => (World.frozen?_of_block (a := ⟨g, i, none⟩) hb).trans (h.2.2 i)⟩
theorem cells_nine (w : World) (x : Sp) (t : TypeId) : ∀ j u, (stC x)[j]? = some u → (w.alloc (.cells (stC x).toArray t)).cell? ((⟨w.heap.size, 0, none⟩ : Addr).add j) = some u := by
  intro j u hj
  have e : ((⟨w.heap.size, 0, none⟩ : Addr).add j) = ⟨w.heap.size, j, none⟩ := by
    unfold Addr.add
    by_cases h : j = 0
    · subst h; rfl
    · simp [h]
  rw [e, (box_new w (stC x).toArray t).2.1 j, ← hj]
  simp
def lenV : Value → Nat
  | .slice _ n _ => n
  | _ => 0
/-- What Get tells: the script that the text tells, or none, and there is none. -/
def Got (text : List UInt8) (op : Bool) (ok : Bool) (ms : List Sp) : Prop :=
  (ok = true → op = true ∧ okB ms = true ∧ enL ms = text ∧ ms.length ≤ 320) ∧
  (ok = false → ms = [] ∧ (op = true → ∀ ls, wfL ls → okB ls = true → ls.length ≤ 320 → enL ls ≠ text))
set_option maxHeartbeats 8000000 in
theorem wi_get (s : ByteArray) (hs : s.size ≤ 100000) (w : World) :
    Calls Try.prog 9 #[.string s] w fun e w' => ∃ A n c f ok, e = .returned (.tuple #[.slice A n c, .bool ok]) ∧ Stp w' A n f ∧ n ≤ c ∧ n ≤ 320 ∧ Got (toldB s).data.toList (openB s) ok (spL f n) ∧ Below w.heap.size w w' := by
  have KO := Lib.hid fun w => crc_open s w (by omega)
  have D0 : Below w.heap.size w w := Below.refl _ _
  cases hop : openB s with
  | false =>
    rw [hop] at KO
    clear hop
    go_enter Try.func9, Try.ntmps9
    go_wp2_with (fail)
    go_step3
    go_wp2_with (go_at_call 18; refine (KO.out _).mono ?_; rintro e w1 ⟨rfl, b1⟩)
    all_goals rw [Exit.noGoto_ret]
    all_goals go_ret2
    all_goals exact ⟨none, 0, 0, fun _ => ⟨noR, false, ⟨#[]⟩⟩, false, rfl, ⟨fun i h => absurd h (by omega), fun h => absurd h (by omega)⟩, Nat.le_refl _, by omega, ⟨fun h => (by simp at h), fun _ => ⟨rfl, fun h => (by simp at h)⟩⟩, b1⟩
  | true =>
    rw [hop] at KO
    have htl : (toldB s).data.toList.length ≤ 100000 := by
      have e : (toldB s).data.toList.length = (toldB s).size := Array.length_toList
      rw [e]
      unfold toldB
      rw [hop, if_pos rfl]
      unfold insideB
      rw [ByteArray.size_extract]
      omega
    have htx : toldB s = ⟨(toldB s).data.toList.toArray⟩ := by cases toldB s; simp
    rw [htx] at KO
    have e2 : (ByteArray.mk (toldB s).data.toList.toArray).data.toList = (toldB s).data.toList := rfl
    clear hop htx
    generalize (toldB s).data.toList = text at *
    clear e2
    obtain ⟨i0, hi0, hz0, hz1, hz2⟩ := info_parts infoStep
    go_enter Try.func9, Try.ntmps9
    go_wp2_with (fail)
    go_step3
    go_wp2_with (go_at_call 18; refine (KO.out _).mono ?_; rintro e w1 ⟨rfl, b1⟩)
    go_step3
    go_wp2_with (fail)
    have g0 : w.heap.size ≤ w1.heap.size := b1.size
    go_loopw [6, 17, 25] (fun v _ _ wr => ∃ ms rest wrong, ms.length ≤ 321 ∧ rest.length ≤ text.length ∧ Gone text ms rest wrong ∧ (∀ x ∈ ms, wfX x) ∧ Below w.heap.size w wr ∧ Box wr w1.heap.size (rdC rest wrong) ∧ wr.ownsRow (w1.heap.size + 1) 35 9 v ms.length (ms.flatMap stC)) (fun v _ _ _ => 322 - lenV v)
    case atStart => exact ⟨[], text, false, by simp, Nat.le_refl _, Gone.start text, fun x h => by simp at h, below_alloc_on b1 _, box_new _ _ _, World.ownsRow_nil _ _ _ _⟩
    case round =>
      obtain ⟨ms, rest, wrong, hm, hr, hgo, hwf, A1, hbx, ho⟩ := hrel
      obtain ⟨A, c, rfl, hnc⟩ := row_form ho
      have c0 : wr.cell? ⟨w1.heap.size, 0, none⟩ = some (.string ⟨rest.toArray⟩) := hbx.2.1 0
      have c1 : wr.cell? ⟨w1.heap.size, 1, none⟩ = some (.bool wrong) := hbx.2.1 1
      have HG := Lib.hid hgo
      have HW := Lib.hid hwf
      have HX := Lib.hid hbx
      have HO := Lib.hid ho
      clear hgo hwf hbx ho
      cases wrong with
      | true =>
        go_wp2_with (fail)
        all_goals rw [Exit.noGoto_ret]
        all_goals go_ret2
        all_goals exact ⟨none, 0, 0, fun _ => ⟨noR, false, ⟨#[]⟩⟩, false, rfl, ⟨fun i h => absurd h (by omega), fun h => absurd h (by omega)⟩, Nat.le_refl _, by omega, ⟨fun h => (by simp at h), fun _ => ⟨rfl, fun _ ls wl ol _ => HG.out.no ls wl ol⟩⟩, A1⟩
      | false =>
        by_cases h3 : 320 < ms.length
        · have t3 : decide ((320 : Int) < (ms.length : Int)) = true := decide_eq_true (by omega)
          go_wp2_with (fail)
          all_goals rw [Exit.noGoto_ret]
          all_goals go_ret2
          all_goals exact ⟨none, 0, 0, fun _ => ⟨noR, false, ⟨#[]⟩⟩, false, rfl, ⟨fun i h => absurd h (by omega), fun h => absurd h (by omega)⟩, Nat.le_refl _, by omega, ⟨fun h => (by simp at h), fun _ => ⟨rfl, fun _ => HG.out.far h3⟩⟩, A1⟩
        · have t3 : decide ((320 : Int) < (ms.length : Int)) = false := decide_eq_false (by omega)
          by_cases hre : rest = []
          · have tE : rest.isEmpty = true := by rw [hre]; rfl
            have HST := Lib.hid (stp_row HO.out rfl HW.out)
            have hdn := HG.out
            rw [hre] at hdn
            have HD := Lib.hid hdn.done
            clear hdn hre
            go_wp2_with (fail)
            all_goals rw [Exit.noGoto_ret]
            all_goals go_ret2
            all_goals exact ⟨A, ms.length, c, _, true, rfl, HST.out, hnc, by omega, ⟨fun _ => by rw [spL_getD]; exact ⟨rfl, HD.out.1, HD.out.2, by omega⟩, fun h => (by simp at h)⟩, A1⟩
          · have tE : rest.isEmpty = false := by
              cases rest with
              | nil => exact absurd rfl hre
              | cons x l => rfl
            have KS := Lib.hid (rd_step w1.heap.size rest false (by omega) wr HX.out)
            have HN := Lib.hid (HG.out.next hre)
            have hln := stR_len rest
            have HWN := Lib.hid (stV_wfX rest)
            unfold spV at KS
            clear hre
            generalize hsv : stV rest = x at *
            clear hsv
            have ML : 140737488355328 ≤ maxLen := by decide
            go_wp2_with (fail)
            refine KS.out.mono ?_
            rintro e w2 ⟨rfl, y⟩
            have no : (Value.slice A ms.length c).ownBlock ≠ some w1.heap.size := fun e => by have := (HO.out.lt _ e).1; omega
            have HO2 := Lib.hid (HO.out.kept y.2 (.inr no))
            have A2 := A1.grown y.2 A1.size (fun q hq => by simp at hq; omega)
            have HX2 := Lib.hid y.1
            clear y
            go_wp2_with (at_builtin; refine wpList_append_own _ rfl _ _ 22 rfl (w1.heap.size + 1) 35 i0 (.agg #[.float .f64 0, .float .f64 0, .float .f64 0, .float .f64 0, .bool false, .int .i64 0, .bool false, .bool false, .string ⟨#[]⟩]) 9 80 Try.underlying22 hi0 hz0 hz1 hz2 rfl (by decide) _ ms.length _ rfl (HO2.out.alloc _) ⟨w2.heap.size, 0, none⟩ 1 1 (stC x) rfl rfl (cells_nine _ _ _) (by intro u hu; simp only [stC, List.mem_cons, List.not_mem_nil, or_false] at hu; rcases hu with rfl | rfl | rfl | rfl | rfl | rfl | rfl | rfl | rfl <;> rfl) (by omega) (by omega) (by have := HX2.out.1; simp; omega) ?_; intro v' w4 ho' hgr _)
            have A4 := (A2.alloc (by have := HX2.out.1; omega) (.cells (stC x).toArray 35)).grown hgr (by have := HX2.out.1; simp; omega) (fun q hq => by have := (HO2.out.lt q hq).1; omega)
            have X4 : Box w4 w1.heap.size (rdC (stR rest) (false || stW rest)) := (HX2.out.alloc _).keeps hgr (fun e => by have := (HO2.out.lt _ e.symm).1; omega)
            have hml : (ms ++ [x]).length = ms.length + 1 := by simp
            have hfl : (ms ++ [x]).flatMap stC = ms.flatMap stC ++ stC x := by simp
            have HO4 := Lib.hid ho'
            obtain ⟨A', c', rfl, _⟩ := row_form ho'
            clear ho' hgr
            go_wp2_with (fail)
            trace_state
            go_roundw
            case rel => exact ⟨ms ++ [x], stR rest, stW rest, by rw [hml]; omega, by omega, HN.out, fun z hz => by rw [List.mem_append, List.mem_singleton] at hz; rcases hz with hz | rfl; exact HW.out z hz; exact HWN.out, A4, by rw [← Bool.false_or (stW rest)]; exact X4, by rw [hml, hfl]; exact HO4.out⟩
            case measure => simp [lenV]; omega
end Go.Proofs.Yteeiebopfjlffaa
