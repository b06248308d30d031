/- Contracts of code.Unpack and of the document's. -/
import Derived.Test.YthibaehiponfnaaPack
import Derived.Test.YthibaehiponfnaaGrown
namespace Go.Proofs.Ythibaehiponfnaa
set_option maxRecDepth 100000
open Go.RowKit
set_option linter.unusedVariables false
set_option linter.unusedSimpArgs false

/-- An answer that is a new list of numbers, and whether it is told. -/
def NewTold (w : World) (ys : List Int) (b : Bool) (e : Ending) (w' : World) : Prop :=
  ∃ B d, e = .returned (.tuple #[.slice B ys.length d, .bool b]) ∧ ys.length ≤ d ∧ Ints w' B ys.length ys ∧ Below w.heap.size w w'
theorem NewTold.none {w w' : World} (h : Below w.heap.size w w') : NewTold w [] false (.returned (.tuple #[.slice none 0 0, .bool false])) w' :=
  ⟨Option.none, 0, rfl, Nat.le_refl _, ⟨rfl, fun h => absurd h (by simp)⟩, h⟩

/-- What is known of a list of numbers while it is read off the text l. -/
def UpAt (l : List UInt8) (ws : List Int) (k a : Nat) (acc : List Int) : Prop := acc.length = k ∧ a ≤ l.length ∧ upO l ws = (up l a (ws.drop k)).map (acc ++ ·)
theorem UpAt.start {l : List UInt8} {ws : List Int} (h : ws.length ≤ 64) : UpAt l ws 0 0 [] := by
  refine ⟨rfl, Nat.zero_le _, ?_⟩
  unfold upO
  rw [if_pos h]
  simp
theorem up_step {l : List UInt8} {ws : List Int} {k a : Nat} (h : k < ws.length) : up l a (ws.drop k) = if takB l.length a (ws.getD k 0) = true then (up l (a + (ws.getD k 0).toNat) (ws.drop (k + 1))).map (takV l a (ws.getD k 0) :: ·) else none := by
  rw [List.drop_eq_getElem_cons h]
  simp only [List.getD, List.getElem?_eq_getElem h, Option.getD_some, up]
theorem UpAt.next {l : List UInt8} {ws : List Int} {k a : Nat} {acc : List Int} (h : UpAt l ws k a acc) (hk : k < ws.length) (hB : takB l.length a (ws.getD k 0) = true) :
    UpAt l ws (k + 1) (a + (ws.getD k 0).toNat) (acc ++ [takV l a (ws.getD k 0)]) := by
  obtain ⟨h1, h2, h3⟩ := h
  rw [up_step hk, if_pos hB, Option.map_map] at h3
  simp only [takB, decide_eq_true_eq] at hB
  refine ⟨by simp [h1], by omega, ?_⟩
  rw [h3]
  congr 1
  funext m
  simp
theorem UpAt.fail {l : List UInt8} {ws : List Int} {k a : Nat} {acc : List Int} (h : UpAt l ws k a acc) (hk : k < ws.length) (hB : takB l.length a (ws.getD k 0) = false) : upB l ws = false ∧ upV l ws = [] := by
  obtain ⟨h1, h2, h3⟩ := h
  rw [up_step hk, hB, if_neg (by decide)] at h3
  have hb : upB l ws = false := by unfold upB; rw [h3]; rfl
  exact ⟨hb, up_none hb⟩
theorem UpAt.done {l : List UInt8} {ws : List Int} {a : Nat} {acc : List Int} (h : UpAt l ws ws.length a acc) (ha : a = l.length) : upB l ws = true ∧ upV l ws = acc := by
  obtain ⟨h1, h2, h3⟩ := h
  rw [List.drop_length] at h3
  simp only [up] at h3
  rw [if_pos ha] at h3
  exact ⟨by unfold upB; rw [h3]; rfl, by unfold upV; rw [h3]; simp⟩
theorem UpAt.left {l : List UInt8} {ws : List Int} {a : Nat} {acc : List Int} (h : UpAt l ws ws.length a acc) (ha : a ≠ l.length) : upB l ws = false ∧ upV l ws = [] := by
  obtain ⟨h1, h2, h3⟩ := h
  rw [List.drop_length] at h3
  simp only [up] at h3
  rw [if_neg ha] at h3
  have hb : upB l ws = false := by unfold upB; rw [h3]; rfl
  exact ⟨hb, up_none hb⟩
theorem upB_no {l : List UInt8} {ws : List Int} (h : ¬ ws.length ≤ 64) : upB l ws = false ∧ upV l ws = [] := by
  have hb : upB l ws = false := by unfold upB upO; rw [if_neg h]; rfl
  exact ⟨hb, up_none hb⟩

set_option maxHeartbeats 400000 in
theorem code_unpack (s : ByteArray) (B : Option Addr) (m d : Nat) (ws : List Int) (w : World) (g : Ints w B m ws) (hs : s.size ≤ 9223372036854775800) (hm : m ≤ 9223372036854775807) :
    Calls Try.prog 20 #[.string s, .slice B m d] w (NewTold w (upV s.data.toList ws) (upB s.data.toList ws)) := by
  have hlw := g.1
  have hls : s.data.toList.length = s.size := Array.length_toList
  by_cases h64 : 64 < m
  · obtain ⟨e1, e2⟩ := upB_no (l := s.data.toList) (ws := ws) (by omega)
    rw [e1, e2]
    clear hlw g e1 e2 hls
    go_enter Try.func20, Try.ntmps20
    go_wp2
    all_goals go_ret2
    all_goals exact NewTold.none (Below.refl _ _)
  · have P0 := Lib.hid (UpAt.start (l := s.data.toList) (ws := ws) (by omega))
    have HW := Lib.hid g
    have LW := Lib.hid hlw
    have LS := Lib.hid hls
    obtain ⟨S, hS⟩ : ∃ S, upV s.data.toList ws = S := ⟨_, rfl⟩
    obtain ⟨E, hE⟩ : ∃ E, upB s.data.toList ws = E := ⟨_, rfl⟩
    rw [hS, hE]
    have KS := Lib.hid hS
    have KE := Lib.hid hE
    clear g hlw hls hS hE
    go_enter Try.func20, Try.ntmps20
    go_wp2
    go_loopw [6, 7, 17] (fun v p i wr => ∃ (k a : Nat) (acc : List Int), k ≤ m ∧ i = .int .i64 k ∧ p = .int .i64 a ∧ UpAt s.data.toList ws k a acc ∧ Grown w acc v wr) (fun _ _ i _ => m - (intOf i).toNat)
    case atStart => exact ⟨0, 0, [], Nat.zero_le _, rfl, rfl, P0.out, Grown.nil w⟩
    case round =>
      obtain ⟨k, a, acc, hk, rfl, rfl, hp, hso⟩ := hrel
      have hal : acc.length ≤ 64 := by have := hp.1; omega
      have haa := hp.2.1
      rw [LS.out] at haa
      by_cases hlt : k < m
      · obtain ⟨b2, o2, rfl, hb2, hc2⟩ := HW.out.at_ hlt
        have hk2 := (hso.2.2.cell (p := ⟨b2, o2 + k, none⟩) hb2).trans hc2
        have k2 : k < ws.length := by have := LW.out; omega
        have hT := code_take s a (ws.getD k 0) (by omega) (by omega)
        rcases Bool.eq_false_or_eq_true (takB s.size a (ws.getD k 0)) with hB | hB
        · have hB2 : takB s.data.toList.length a (ws.getD k 0) = true := by rw [LS.out]; exact hB
          have hp2 := Lib.hid (hp.next k2 hB2)
          rw [hB] at hT
          have hw7 : 1 ≤ ws.getD k 0 ∧ ws.getD k 0 ≤ 7 ∧ (a : Int) ≤ s.size - ws.getD k 0 := by
            simp only [takB, decide_eq_true_eq] at hB; omega
          obtain ⟨y, hy⟩ := Int.eq_ofNat_of_zero_le (show 0 ≤ ws.getD k 0 by omega)
          rw [hy] at hT hk2 hp2 hw7
          rw [Int.toNat_natCast] at hp2
          obtain ⟨y1, y7, ya⟩ := hw7
          have HTt := Lib.hid hT
          clear hc2 hT hB hB2 hp hy
          generalize takV s.data.toList (a : Int) (y : Int) = x at *
          have hsz := hso.2.2.size
          obtain ⟨R, dd, rfl, hd, _⟩ := hso.form
          have HS := Lib.hid hso
          have HO := Lib.hid hso.2.1
          clear hso
          go_wp2_with (first
            | (go_at_call 29; refine (HTt.out _).mono ?_; rintro e w2 ⟨rfl, rfl⟩)
            | (at_builtin; refine app_int rfl _ _ rfl x rfl rfl HO.out hsz (by omega) ?_))
          intro v' w1 ho hg
          have hnext := Lib.hid (HS.out.next ho hg)
          clear ho hg hk2
          go_wp2
          go_roundw
          case rel => exact ⟨k + 1, a + y, _, by omega, by go_num, by go_num, hp2.out, hnext.out⟩
          case measure => simp [intOf]; omega
        · have hB2 : takB s.data.toList.length a (ws.getD k 0) = false := by rw [LS.out]; exact hB
          obtain ⟨e1, e2⟩ := hp.fail k2 hB2
          rw [KE.out] at e1
          rw [KS.out] at e2
          have E1 := Lib.hid e1
          have E2 := Lib.hid e2
          rw [hB] at hT
          have HTt := Lib.hid hT
          have HBb := Lib.hid hso.2.2
          obtain ⟨R, dd, rfl, hd, _⟩ := hso.form
          clear hc2 hT hB hB2 hp e1 e2 hso
          generalize takV s.data.toList (a : Int) (ws.getD k 0) = x at *
          generalize ws.getD k 0 = y at *
          go_wp2_with (go_at_call 29; refine (HTt.out _).mono ?_; rintro e w2 ⟨rfl, rfl⟩)
          all_goals go_ret2
          all_goals
            rw [E1.out, E2.out]
            exact NewTold.none HBb.out
      · obtain rfl : k = m := by omega
        have hpe : UpAt s.data.toList ws ws.length a acc := by rw [LW.out]; exact hp
        obtain ⟨R, dd, rfl, hd, hi⟩ := hso.form
        have HI := Lib.hid hi
        have HBb := Lib.hid hso.2.2
        by_cases he : a = s.size
        · obtain ⟨e1, e2⟩ := hpe.done (by rw [LS.out]; exact he)
          rw [KE.out] at e1
          rw [KS.out] at e2
          have E1 := Lib.hid e1
          have E2 := Lib.hid e2
          have t : ((a : Int) != (s.size : Int)) = false := by simp; omega
          clear hp hpe hi hso e1 e2 he
          go_wp2
          all_goals go_ret2
          all_goals
            rw [E1.out, E2.out]
            exact ⟨R, dd, rfl, hd, HI.out, HBb.out⟩
        · obtain ⟨e1, e2⟩ := hpe.left (by rw [LS.out]; exact he)
          rw [KE.out] at e1
          rw [KS.out] at e2
          have E1 := Lib.hid e1
          have E2 := Lib.hid e2
          have t : ((a : Int) != (s.size : Int)) = true := by simp; omega
          clear hp hpe hi hso e1 e2 he
          go_wp2
          all_goals go_ret2
          all_goals
            rw [E1.out, E2.out]
            exact NewTold.none HBb.out
end Go.Proofs.Ythibaehiponfnaa
