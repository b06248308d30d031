/- Contracts of package diary, and of the document's: Since; the document's Push; whether two lists are the same. -/
import Derived.Test.YtbhgecmmmkmkjaaDoorNotes
namespace Go.Proofs.YtbhgecmmmkmkjaaDoor
open Go.RowKit Go.Deep
set_option linter.unusedVariables false
set_option linter.unusedSimpArgs false
set_option maxRecDepth 100000
attribute [local go_sem] cell_set_ite Near.cell Near.frozen

/-- An answer that is a new list of notes. -/
def NewNotes (w : World) (L : List Nt) (e : Ending) (w' : World) : Prop := ∃ B d, e = .returned (.slice B L.length d) ∧ L.length ≤ d ∧ Notes w' B L.length L ∧ Below w.heap.size w w'
theorem grown_empty (w : World) : GrownN w [] (.slice (some ⟨w.heap.size, 0, none⟩) 0 0) (w.alloc (.cells #[] 31)) :=
  ⟨World.ownsRow_lit w #[] 0 (Nat.le_refl _) (Nat.zero_le _) rfl, (Below.refl _ _).alloc (Nat.le_refl _) _⟩
set_option maxHeartbeats 4000000 in
theorem di_since (A : Option Addr) (n c : Nat) (l : List Nt) (tick : Int) (w : World) (h : Notes w A n l) (hn : n ≤ 100000) : Calls Tryd.prog 18 #[.slice A n c, .int .i64 tick] w (NewNotes w (sinceL l tick n)) := by
  have HI := Lib.hid h
  have G0 := Lib.hid (grown_empty w)
  clear h
  go_enter Tryd.func18, Tryd.ntmps18
  go_wp2
  go_loopg [5, 11] n (fun gk x i wr => ∃ k : Nat, k ≤ n ∧ gk = n - k ∧ i = .int .i64 k ∧ GrownN w (sinceL l tick k) x wr)
  case atStart => exact ⟨0, by omega, rfl, rfl, G0.out⟩
  case round =>
    clear G0
    obtain ⟨k, hk, rfl, rfl, G⟩ := hrel
    by_cases hlt : k < n
    · obtain ⟨b, off, rfl, hbs, hc0, hc1, hc2⟩ := HI.out.at_ hlt
      have c0 := (G.2.cell (p := ⟨b, off + k * 3, none⟩) hbs).trans hc0
      have c1 := (G.2.cell (p := ⟨b, off + k * 3 + 1, none⟩) hbs).trans hc1
      have c2 := (G.2.cell (p := ⟨b, off + k * 3 + 2, none⟩) hbs).trans hc2
      have hS : sinceL l tick (k + 1) = if tick ≤ (l.getD k nt0).t then sinceL l tick k ++ [l.getD k nt0] else sinceL l tick k := rfl
      have hll : (sinceL l tick k).length ≤ 1000000 := by have := sinceL_len l tick k; omega
      have HG := Lib.hid (G.below (below_alloc_on (Below.refl wr.heap.size wr) (.cells #[.int .i64 (l.getD k nt0).t, .int .i64 (l.getD k nt0).w, .int .i64 (l.getD k nt0).a] 31)))
      clear hc0 hc1 hc2 G
      generalize l.getD k nt0 = x at *
      obtain ⟨xt, xw, xa⟩ := x
      dsimp only at c0 c1 c2 hS HG
      generalize sinceL l tick k = L at *
      by_cases ht : tick ≤ xt
      · rw [if_pos ht] at hS
        have HS := Lib.hid hS
        have t1 := decide_eq_true ht
        clear hS ht
        go_upto_region 6 with (fail)
        refine at_world (fun W => GrownN w L u5 W ∧ Box W wr.heap.size #[.int .i64 xt, .int .i64 xw, .int .i64 xa]) ⟨HG.out, box_new _ _ _⟩ ?_
        obtain ⟨nb, hnb⟩ : ∃ nb, wr.heap.size = nb := ⟨_, rfl⟩
        simp only [hnb]
        clear hnb
        rintro w3 ⟨G3, BX⟩
        obtain ⟨z0, z1, z2, zf, zl⟩ := BX.three
        have HG3 := Lib.hid G3
        have hsz := G3.2.size
        clear G3
        go_wp2_with (at_builtin; refine app_note rfl _ _ rfl xt xw xa rfl rfl HG3.out.1 hsz hll ?_)
        intro v' w4 h1 h2
        have G4 := Lib.hid (HG3.out.next (x := ⟨xt, xw, xa⟩) h1 h2)
        clear h1 h2 HG c0 c1 c2
        go_wp2
        go_roundg (n - (k + 1))
        case measure => omega
        case rel => exact ⟨k + 1, by omega, by omega, by go_num, by rw [HS.out]; exact G4.out⟩
      · rw [if_neg ht] at hS
        have HS := Lib.hid hS
        have t1 := decide_eq_false ht
        clear hS ht
        go_wp2
        go_roundg (n - (k + 1))
        case measure => omega
        case rel => exact ⟨k + 1, by omega, by omega, by go_num, by rw [HS.out]; exact HG.out⟩
    · obtain rfl : k = n := by omega
      obtain ⟨B, d, rfl, hd, hN⟩ := G.form
      have HN := Lib.hid hN
      have A2 := G.2
      clear G hN
      go_wp2
      all_goals go_ret
      all_goals exact ⟨B, d, rfl, hd, HN.out, A2⟩
set_option maxHeartbeats 4000000 in
theorem rd_since (A : Option Addr) (n c : Nat) (l : List Nt) (tick : Int) (w : World) (h : Notes w A n l) (hn : n ≤ 100000) : Calls Tryd.prog 19 #[.slice A n c, .int .i64 tick] w (NewNotes w (sinceL l tick n)) := by
  have HI := Lib.hid h
  have G0 := Lib.hid (GrownN.nil w)
  clear h
  go_enter Tryd.func19, Tryd.ntmps19
  go_wp2
  go_loopg [5, 9] n (fun gk x i wr => ∃ k : Nat, k ≤ n ∧ gk = n - k ∧ i = .int .i64 k ∧ GrownN w (sinceL l tick k) x wr)
  case atStart => exact ⟨0, by omega, rfl, rfl, G0.out⟩
  case round =>
    clear G0
    obtain ⟨k, hk, rfl, rfl, G⟩ := hrel
    by_cases hlt : k < n
    · obtain ⟨b, off, rfl, hbs, hc0, hc1, hc2⟩ := HI.out.at_ hlt
      have c0 := (G.2.cell (p := ⟨b, off + k * 3, none⟩) hbs).trans hc0
      have c1 := (G.2.cell (p := ⟨b, off + k * 3 + 1, none⟩) hbs).trans hc1
      have c2 := (G.2.cell (p := ⟨b, off + k * 3 + 2, none⟩) hbs).trans hc2
      have hS : sinceL l tick (k + 1) = if tick ≤ (l.getD k nt0).t then sinceL l tick k ++ [l.getD k nt0] else sinceL l tick k := rfl
      have hll : (sinceL l tick k).length ≤ 1000000 := by have := sinceL_len l tick k; omega
      have HG := Lib.hid G
      clear hc0 hc1 hc2 G
      generalize l.getD k nt0 = x at *
      obtain ⟨xt, xw, xa⟩ := x
      dsimp only at c0 c1 c2 hS
      generalize sinceL l tick k = L at *
      by_cases ht : tick ≤ xt
      · rw [if_pos ht] at hS
        have HS := Lib.hid hS
        have t1 := decide_eq_true ht
        have hsz := HG.out.2.size
        clear hS ht
        go_wp2_with (at_builtin; refine app_note rfl _ _ rfl xt xw xa rfl rfl HG.out.1 hsz hll ?_)
        intro v' w4 h1 h2
        have G4 := Lib.hid (HG.out.next (x := ⟨xt, xw, xa⟩) h1 h2)
        clear h1 h2 HG c0 c1 c2
        go_wp2
        go_roundg (n - (k + 1))
        case measure => omega
        case rel => exact ⟨k + 1, by omega, by omega, by go_num, by rw [HS.out]; exact G4.out⟩
      · rw [if_neg ht] at hS
        have HS := Lib.hid hS
        have t1 := decide_eq_false ht
        clear hS ht
        go_wp2
        go_roundg (n - (k + 1))
        case measure => omega
        case rel => exact ⟨k + 1, by omega, by omega, by go_num, by rw [HS.out]; exact HG.out⟩
    · obtain rfl : k = n := by omega
      obtain ⟨B, d, rfl, hd, hN⟩ := G.form
      have HN := Lib.hid hN
      have A2 := G.2
      clear G hN
      go_wp2
      all_goals go_ret
      all_goals exact ⟨B, d, rfl, hd, HN.out, A2⟩

/-- What is kept when one more note is pushed. -/
def pushN (l : List Nt) (x : Nt) : List Nt := l.drop (l.length - 31) ++ [x]
theorem drop_next (l : List Nt) (r j : Nat) (h : r + j < l.length) : (l.drop r).take (j + 1) = (l.drop r).take j ++ [l.getD (r + j) nt0] := by
  rw [List.take_add_one, List.getElem?_drop, List.getElem?_eq_getElem h]
  simp [List.getD, h]
set_option maxHeartbeats 4000000 in
theorem rd_push (A : Option Addr) (n c : Nat) (l : List Nt) (xt xw xa : Int) (w : World) (h : Notes w A n l) (hn : n ≤ 1000) : Calls Tryd.prog 15 #[.slice A n c, .agg #[.int .i64 xt, .int .i64 xw, .int .i64 xa]] w (NewNotes w (pushN l ⟨xt, xw, xa⟩)) := by
  have HI := Lib.hid h
  have hlen := h.1
  obtain ⟨r, hr⟩ : ∃ r : Nat, n - 31 = r := ⟨_, rfl⟩
  have HP := Lib.hid (show pushN l ⟨xt, xw, xa⟩ = (l.drop r).take (n - r) ++ [⟨xt, xw, xa⟩] by
    unfold pushN
    rw [hlen, hr, List.take_of_length_le (by simp; omega)])
  have HL := Lib.hid hlen
  have BX := box_new w #[.int .i64 xt, .int .i64 xw, .int .i64 xa] 31
  have A1 := below_alloc_on (Below.refl w.heap.size w) (.cells #[.int .i64 xt, .int .i64 xw, .int .i64 xa] 31)
  have HB := Lib.hid BX
  have w1 : IntKind.i64.wrap ((n : Int) + 1) = (n : Int) + 1 := by rw [IntKind.wrap_i64]; omega
  have w2 : IntKind.i64.wrap ((n : Int) + 1 - 32) = (n : Int) + 1 - 32 := by rw [IntKind.wrap_i64]; omega
  have hs : (0 < r ∧ (n : Int) + 1 - 32 = (r : Int)) ∨ (Hid (r = 0) ∧ (n : Int) + 1 - 32 ≤ 0) := by
    rcases Nat.eq_zero_or_pos r with e | e
    · exact .inr ⟨Lib.hid e, by omega⟩
    · exact .inl ⟨e, by omega⟩
  have hrn : r ≤ n := by omega
  clear h hlen BX hr
  rcases hs with ⟨hs0, hs⟩ | ⟨R0, hs⟩
  all_goals
    go_enter Tryd.func15, Tryd.ntmps15
    go_wp2
    obtain ⟨g0, hg0⟩ : ∃ g0, w.heap.size = g0 := ⟨_, rfl⟩
    generalize hw1 : w.alloc (.cells #[.int .i64 xt, .int .i64 xw, .int .i64 xa] 31) = wa at *
    rw [hg0] at HB
    simp only [hg0]
    clear hw1 hg0
    go_loopg [5, 6] (n - r) (fun gk x i wr => ∃ j : Nat, r + j ≤ n ∧ gk = n - r - j ∧ i = .int .i64 ((r + j : Nat) : Int) ∧ GrownN wa ((l.drop r).take j) x wr)
    case atStart => exact ⟨0, by omega, by omega, (by first | rfl | (congr 1; omega) | (have := R0.out; congr 1; omega)), by rw [List.take_zero]; exact GrownN.nil wa⟩
    case round =>
      obtain ⟨j, hj, rfl, rfl, G⟩ := hrel
      have hll : ((l.drop r).take j).length ≤ 1000000 := by rw [List.length_take]; omega
      by_cases hlt : r + j < n
      · have d1 : decide (((r + j : Nat) : Int) < (n : Int)) = true := decide_eq_true (by omega)
        obtain ⟨b, off, rfl, hbs, hc0, hc1, hc2⟩ := (HI.out.below A1).at_ hlt
        have c0 := (G.2.cell (p := ⟨b, off + (r + j) * 3, none⟩) hbs).trans hc0
        have c1 := (G.2.cell (p := ⟨b, off + (r + j) * 3 + 1, none⟩) hbs).trans hc1
        have c2 := (G.2.cell (p := ⟨b, off + (r + j) * 3 + 2, none⟩) hbs).trans hc2
        have HS := Lib.hid (drop_next l r j (by have := HL.out; omega))
        have HG := Lib.hid G
        have hsz := G.2.size
        clear hc0 hc1 hc2 G
        generalize l.getD (r + j) nt0 = y at *
        obtain ⟨yt, yw, ya⟩ := y
        dsimp only at c0 c1 c2
        generalize (l.drop r).take j = L at *
        obtain ⟨q, hq⟩ : ∃ q, r + j = q := ⟨_, rfl⟩
        have wq : IntKind.i64.wrap ((q : Int) + 1) = (q : Int) + 1 := by rw [IntKind.wrap_i64]; omega
        rw [hq] at c0 c1 c2 d1 ⊢
        have HQ := Lib.hid hq
        have hqn : q < n := by omega
        clear hq hlt
        go_wp2_with (at_builtin; refine app_note rfl _ _ rfl yt yw ya rfl rfl HG.out.1 hsz hll ?_)
        intro v' w4 h1 h2
        have G4 := Lib.hid (HG.out.next (x := ⟨yt, yw, ya⟩) h1 h2)
        clear h1 h2 HG c0 c1 c2
        go_wp2
        go_roundg (n - r - (j + 1))
        case measure => have := HQ.out; omega
        case rel => exact ⟨j + 1, by have := HQ.out; omega, rfl, by rw [← HQ.out]; go_num, by rw [HS.out]; exact G4.out⟩
      · obtain rfl : j = n - r := by omega
        have d1 : decide (((r + (n - r) : Nat) : Int) < (n : Int)) = false := decide_eq_false (by omega)
        obtain ⟨z0, z1, z2, zf, zl⟩ := (HB.out.below G.2).three
        have hsz := G.2.size
        have HG := Lib.hid G
        have HLL := Lib.hid (show pushN l ⟨xt, xw, xa⟩ = (l.drop r).take (n - r) ++ [⟨xt, xw, xa⟩] from HP.out)
        clear G
        generalize (l.drop r).take (n - r) = L at *
        go_wp2_with (at_builtin; refine app_note rfl _ _ rfl xt xw xa rfl rfl HG.out.1 hsz hll ?_)
        intro v' w4 h1 h2
        have G4 := HG.out.next (x := ⟨xt, xw, xa⟩) h1 h2
        obtain ⟨B, d, rfl, hd, hN⟩ := G4.form
        have HN := Lib.hid hN
        have A2 := below_call A1 G4.2
        have HD := Lib.hid hd
        clear h1 h2 HG G4 hN hd z0 z1 z2 zf zl
        go_wp2
        all_goals go_ret
        all_goals (rw [HLL.out]; exact ⟨B, d, rfl, HD.out, HN.out, A2⟩)
end Go.Proofs.YtbhgecmmmkmkjaaDoor
