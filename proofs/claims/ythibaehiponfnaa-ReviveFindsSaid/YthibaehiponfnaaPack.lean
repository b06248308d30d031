/- Contracts of code.Pack and of the document's. -/
import Derived.Test.YthibaehiponfnaaTake
import Derived.Test.YthibaehiponfnaaRead
import Derived.Laws.Concat
import Derived.WalkLawsBesides
namespace Go.Proofs.Ythibaehiponfnaa
set_option maxRecDepth 100000
open Go.RowKit
set_option linter.unusedVariables false
set_option linter.unusedSimpArgs false

theorem pk_step {xs ws : List Int} {k : Nat} (h1 : k < xs.length) (h2 : k < ws.length) : pk (xs.drop k) (ws.drop k) = if numB (xs.getD k 0) (ws.getD k 0) = true then (pk (xs.drop (k + 1)) (ws.drop (k + 1))).map (numL (xs.getD k 0).toNat (ws.getD k 0).toNat ++ ·) else none := by
  rw [List.drop_eq_getElem_cons h1, List.drop_eq_getElem_cons h2]
  simp only [List.getD, List.getElem?_eq_getElem h1, List.getElem?_eq_getElem h2, Option.getD_some, pk]
theorem pk_end {xs ws : List Int} : pk (xs.drop xs.length) ws = some [] := by rw [List.drop_length]; unfold pk; rfl
/-- What is known of a row while it is told. -/
def PkAt (xs ws : List Int) (k : Nat) (acc : List UInt8) : Prop := acc.length ≤ 7 * k ∧ pkO xs ws = (pk (xs.drop k) (ws.drop k)).map (acc ++ ·)
theorem PkAt.start {xs ws : List Int} (h : xs.length = ws.length) (h2 : ws.length ≤ 64) : PkAt xs ws 0 [] := by
  refine ⟨by simp, ?_⟩
  unfold pkO
  rw [if_pos ⟨h, h2⟩]
  simp
theorem PkAt.next {xs ws : List Int} {k : Nat} {acc : List UInt8} (h : PkAt xs ws k acc) (h1 : k < xs.length) (h2 : k < ws.length) (hB : numB (xs.getD k 0) (ws.getD k 0) = true) : PkAt xs ws (k + 1) (acc ++ (numS (xs.getD k 0) (ws.getD k 0)).data.toList) := by
  obtain ⟨hl, he⟩ := h
  rw [pk_step h1 h2, if_pos hB, Option.map_map] at he
  have hb := hB
  simp only [numB, decide_eq_true_eq] at hb
  have e : (numS (xs.getD k 0) (ws.getD k 0)).data.toList = numL (xs.getD k 0).toNat (ws.getD k 0).toNat := by unfold numS; rw [if_pos hB]
  refine ⟨?_, ?_⟩
  · rw [e, List.length_append, numL_len]; omega
  · rw [he, e]
    congr 1
    funext l
    simp
theorem PkAt.fail {xs ws : List Int} {k : Nat} {acc : List UInt8} (h : PkAt xs ws k acc) (h1 : k < xs.length) (h2 : k < ws.length) (hB : numB (xs.getD k 0) (ws.getD k 0) = false) : pkB xs ws = false ∧ pkS xs ws = ⟨#[]⟩ := by
  obtain ⟨hl, he⟩ := h
  rw [pk_step h1 h2, hB, if_neg (by decide)] at he
  have hb : pkB xs ws = false := by unfold pkB; rw [he]; rfl
  exact ⟨hb, pk_none hb⟩
theorem PkAt.done {xs ws : List Int} {acc : List UInt8} (h : PkAt xs ws xs.length acc) : pkB xs ws = true ∧ pkS xs ws = ⟨acc.toArray⟩ := by
  obtain ⟨hl, he⟩ := h
  rw [pk_end] at he
  refine ⟨by unfold pkB; rw [he]; rfl, by unfold pkS; rw [he]; simp⟩
theorem pkB_no {xs ws : List Int} (h : ¬ (xs.length = ws.length ∧ ws.length ≤ 64)) : pkB xs ws = false ∧ pkS xs ws = ⟨#[]⟩ := by
  have hb : pkB xs ws = false := by unfold pkB pkO; rw [if_neg h]; rfl
  exact ⟨hb, pk_none hb⟩

theorem code_pack (A B : Option Addr) (n c m d : Nat) (xs ws : List Int) (w : World) (h : Ints w A n xs) (g : Ints w B m ws) (hn : n ≤ 9223372036854775807) (hm : m ≤ 9223372036854775807)
    (hx : ∀ x ∈ xs, -9223372036854775808 ≤ x ∧ x ≤ 9223372036854775807) :
    Calls Try.prog 26 #[.slice A n c, .slice B m d] w fun e w' => e = .returned (.tuple #[.string (pkS xs ws), .bool (pkB xs ws)]) ∧ Below w.heap.size w w' := by
  have hlx := h.1
  have hlw := g.1
  by_cases hnm : n = m
  · subst hnm
    by_cases h64 : 64 < n
    · obtain ⟨e1, e2⟩ := pkB_no (xs := xs) (ws := ws) (by omega)
      rw [e1, e2]
      clear hlx hlw h g e1 e2 hx
      go_enter Try.func26, Try.ntmps26
      go_wp2
      all_goals go_ret2
      all_goals exact ⟨rfl, Below.refl _ _⟩
    · have P0 := Lib.hid (PkAt.start (xs := xs) (ws := ws) (by omega) (by omega))
      have HX := Lib.hid h
      have HW := Lib.hid g
      have LX := Lib.hid hlx
      have LW := Lib.hid hlw
      have HB := Lib.hid hx
      obtain ⟨S, hS⟩ : ∃ S, pkS xs ws = S := ⟨_, rfl⟩
      obtain ⟨E, hE⟩ : ∃ E, pkB xs ws = E := ⟨_, rfl⟩
      rw [hS, hE]
      have KS := Lib.hid hS
      have KE := Lib.hid hE
      clear h g hlx hlw hx hS hE
      go_enter Try.func26, Try.ntmps26
      go_wp2
      go_loopw [6, 22] (fun v i wr => ∃ (k : Nat) (acc : List UInt8), k ≤ n ∧ i = .int .i64 k ∧ PkAt xs ws k acc ∧ GrownB w acc v wr) (fun _ i _ => n - (intOf i).toNat)
      case atStart => exact ⟨0, [], Nat.zero_le _, rfl, P0.out, GrownB.nil w⟩
      case round =>
        obtain ⟨k, acc, hk, rfl, hp, hso⟩ := hrel
        obtain ⟨R, dd, rfl, hd⟩ := hso.form
        by_cases hlt : k < n
        · obtain ⟨b1, o1, rfl, hb1, hc1⟩ := HX.out.at_ hlt
          obtain ⟨b2, o2, rfl, hb2, hc2⟩ := HW.out.at_ hlt
          have hk1 := (hso.2.2.cell (p := ⟨b1, o1 + k, none⟩) hb1).trans hc1
          have hk2 := (hso.2.2.cell (p := ⟨b2, o2 + k, none⟩) hb2).trans hc2
          have hxr := HB.out (xs.getD k 0) (by rw [List.getD, List.getElem?_eq_getElem (by have := LX.out; omega)]; exact List.getElem_mem _)
          have hN := code_num (xs.getD k 0) (ws.getD k 0) hxr.1 hxr.2
          have hal := hp.1
          have k1 : k < xs.length := by have := LX.out; omega
          have k2 : k < ws.length := by have := LW.out; omega
          have hsz := numS_size (xs.getD k 0) (ws.getD k 0)
          rcases Bool.eq_false_or_eq_true (numB (xs.getD k 0) (ws.getD k 0)) with hB | hB
          · have hp2 := Lib.hid (hp.next k1 k2 hB)
            rw [hB, if_pos rfl] at hsz
            have hw7 : 1 ≤ (ws.getD k 0).toNat ∧ (ws.getD k 0).toNat ≤ 7 := by
              simp only [numB, decide_eq_true_eq] at hB; omega
            have HS := Lib.hid hso
            have HN := Lib.hid hN
            clear hc1 hc2 hN hso hB hxr hp
            generalize xs.getD k 0 = x at *
            generalize ws.getD k 0 = y at *
            generalize numS x y = T at *
            have hT1 : 1 ≤ T.size ∧ T.size ≤ 7 := by omega
            clear hsz hw7
            have hTl : T.toList.length = T.size := by rw [ByteArray.toList_eq, Array.length_toList]; rfl
            have hne : T.toList ≠ [] := by rintro e; rw [e] at hTl; simp at hTl; omega
            have hem : T.toList.isEmpty = false := by simpa using hne
            clear hTl
            go_wp2_with (first
              | (go_at_call 30; refine (HN.out _).mono ?_; rintro e w2 ⟨rfl, hb⟩; have G := Lib.hid (HS.out.below hb); have hz := G.out.2.2.size; clear hb)
              | (at_builtin; refine app_text rfl _ _ rfl T rfl rfl G.out.2.1 hz (by omega) ?_))
            intro v' w3 ho hg
            have hnext := Lib.hid (G.out.more ho hg)
            clear ho hg
            go_wp2
            go_roundw
            case rel => exact ⟨k + 1, _, by omega, by go_num, hp2.out, hnext.out⟩
            case measure => simp [intOf]; omega
          · obtain ⟨e1, e2⟩ := hp.fail k1 k2 hB
            have e3 : numS (xs.getD k 0) (ws.getD k 0) = ⟨#[]⟩ := by unfold numS; rw [hB]; rfl
            rw [e3] at hN
            have HN := Lib.hid hN
            have HS := Lib.hid hso.2.2
            rw [KE.out] at e1
            rw [KS.out] at e2
            have E1 := Lib.hid e1
            have E2 := Lib.hid e2
            clear hc1 hc2 hN hso hB hxr hp e3 e1 e2 hsz
            generalize xs.getD k 0 = x at *
            generalize ws.getD k 0 = y at *
            go_wp2_with (go_at_call 30; refine (HN.out _).mono ?_; rintro e w2 ⟨rfl, hb⟩)
            all_goals go_ret2
            all_goals exact ⟨by rw [E1.out, E2.out]; rfl, Below.trans HS.out (hb.mono HS.out.size)⟩
        · obtain rfl : k = n := by omega
          have hp := LX.out ▸ hp
          obtain ⟨e1, e2⟩ := PkAt.done (acc := acc) (xs := xs) (ws := ws) (by rw [LX.out]; assumption)
          rw [KE.out] at e1
          rw [KS.out] at e2
          have E1 := Lib.hid e1
          have E2 := Lib.hid e2
          have hv := hso.read
          have hb := hso.2.2
          clear hso hp e1 e2
          go_wp2
          all_goals go_ret2
          all_goals exact ⟨by rw [E1.out, E2.out]; rfl, hb⟩
  · obtain ⟨e1, e2⟩ := pkB_no (xs := xs) (ws := ws) (by omega)
    have t : ((n : Int) != (m : Int)) = true := by simp; omega
    rw [e1, e2]
    clear hlx hlw h g e1 e2 hx
    go_enter Try.func26, Try.ntmps26
    go_wp2
    all_goals go_ret2
    all_goals exact ⟨rfl, Below.refl _ _⟩

end Go.Proofs.Ythibaehiponfnaa
