/- Contracts of package titrate: the way from one rate to another. -/
import Derived.Test.YthijabhnmjbboaaTit
import Derived.Deep.OwnRows
namespace Go.Proofs.Ythijabhnmjbboaa
open Go.RowKit
set_option linter.unusedVariables false
set_option linter.unusedSimpArgs false
attribute [local go_sem] cell_set_ite Near.cell Near.frozen

/-- A list as an answer, and what is wrong. -/
def Way (w : World) (ys : List Int) (E : Int) (mk : Value → Value) : Ending → World → Prop :=
  fun e w' => ∃ B d, e = .returned (mk (.slice B ys.length d)) ∧ ys.length ≤ d ∧ Ints w' B ys.length ys ∧ Below w.heap.size w w'

theorem tt_way_no (r a b c E : Int) (h : E ≠ 0) (w : World) : Calls Try.prog 59 #[.int .i64 r, .agg #[.int .i64 a, .int .i64 b, .int .i64 c, .int .i64 E]] w fun e w' => e = .returned (.agg #[.slice none 0 0, .int .i64 E]) ∧ Below w.heap.size w w' := by
  have t2 : (E != 0) = true := by simpa using h
  clear h
  go_enter Try.func59, Try.ntmps59
  go_wp2
  refine bodyPost_ret (v := .agg #[.slice none 0 0, .int .i64 E]) (by simp [results, Try.results59, go_sem]) rfl ⟨rfl, by (repeat (first | (with_reducible exact Below.refl _ _) | (with_reducible assumption) | (with_reducible refine Near.up _ ?_) | (with_reducible refine Below.drew ?_) | (with_reducible refine below_alloc_on ?_ _) | (with_reducible refine below_set_on ?_ (by first | (simp; done) | (simp; omega) | omega) _)))⟩

theorem own_far {w w' : World} {base n : Nat} {B : Option Addr} {d : Nat} {ys : List Int} (ho : w.ownsRow base 3 1 (.slice B n d) n (ys.map (Value.int .i64))) (hn : ys.length = n) (hs : w.heap.size ≤ w'.heap.size)
    (hc : ∀ a : Addr, base ≤ a.block → w'.cell? a = w.cell? a) : Ints w' B n ys := by
  have hi := Ints.of_own ho hn
  refine ⟨hn, fun h0 => ?_⟩
  obtain ⟨b, off, rfl, hb, hc2⟩ := hi.2 h0
  refine ⟨b, off, rfl, by omega, fun i hi => ?_⟩
  rw [hc]
  · exact hc2 i hi
  · rcases ho.2 with ⟨h1, h2⟩ | ⟨g, cap, cur, hv, hg, _⟩
    · omega
    · injection hv with h3
      injection h3 with h4
      injection h4 with h5
      simp; omega
theorem far2 (w : World) (g i j : Nat) (u v : Value) (a : Addr) (h : g < a.block) : ((w.setCell ⟨g, i, none⟩ u).setCell ⟨g, j, none⟩ v).cell? a = w.cell? a := by
  rw [World.cell?_setCell_other _ _ _ _ (fun e => by have := congrArg Addr.block e; simp at this; omega), World.cell?_setCell_other _ _ _ _ (fun e => by have := congrArg Addr.block e; simp at this; omega)]
theorem tt_way (r v s n : Int) (r0 : 5 ≤ r) (r1 : r ≤ 1000) (n0 : 5 ≤ n) (n1 : n ≤ 1000) (w : World) :
    Calls Try.prog 59 #[.int .i64 r, .agg #[.int .i64 n, .int .i64 v, .int .i64 s, .int .i64 0]] w fun e w' => ∃ B d, e = .returned (.agg #[.slice B (wayL 8 r n).length d, .int .i64 0]) ∧ (wayL 8 r n).length ≤ d ∧ Ints w' B (wayL 8 r n).length (wayL 8 r n) ∧ Below w.heap.size w w' := by
  have hreach := reach_8 r0 r1 n0 n1
  have A : Below w.heap.size w w := Below.refl _ _
  obtain ⟨Y, hY⟩ : ∃ Y, wayL 8 r n = Y := ⟨_, rfl⟩
  have hl := way_len 8 r n
  rw [hY] at hl
  rw [hY]
  go_enter Try.func59, Try.ntmps59
  go_upto_region 4 with fail
  have A1 := below_alloc_on (below_alloc_on A (.cells #[.int .i64 n, .int .i64 v, .int .i64 s, .int .i64 0] 78)) (.cells #[.slice none 0 0, .int .i64 0] 82)
  have P1 := (box_new w #[.int .i64 n, .int .i64 v, .int .i64 s, .int .i64 0] 78).alloc (.cells #[.slice none 0 0, .int .i64 0] 82)
  have Q1 : Box ((w.alloc (.cells #[.int .i64 n, .int .i64 v, .int .i64 s, .int .i64 0] 78)).alloc (.cells #[.slice none 0 0, .int .i64 0] 82)) (w.heap.size + 1) #[.slice none 0 0, .int .i64 0] := by (repeat (first | (with_reducible assumption) | (with_reducible exact box_new _ _ _) | ((with_reducible apply box_at); (first | (with_reducible rfl) | (simp <;> omega))) | (with_reducible apply Box.drew) | (with_reducible apply Box.drewN) | (with_reducible apply Box.near) | (with_reducible apply Box.alloc) | ((with_reducible apply box_far); (first | assumption | omega | (simp <;> omega))) | ((with_reducible apply Box.one_set); (with_reducible assumption)) | ((with_reducible apply Box.two_set); (with_reducible assumption)) | ((with_reducible apply Box.three_set); (with_reducible assumption)) | (with_reducible apply Box.set) | (simp only [List.size_toArray, List.length_cons, List.length_nil, Array.size_setIfInBounds] <;> omega)))
  have hs : ((w.alloc (.cells #[.int .i64 n, .int .i64 v, .int .i64 s, .int .i64 0] 78)).alloc (.cells #[.slice none 0 0, .int .i64 0] 82)).heap.size = w.heap.size + 2 := by simp
  generalize (w.alloc (.cells #[.int .i64 n, .int .i64 v, .int .i64 s, .int .i64 0] 78)).alloc (.cells #[.slice none 0 0, .int .i64 0] 82) = wB at *
  have H0 := Grown.empty wB
  rw [hs] at H0
  go_loopg [0, 5] 8 (fun k r' v' wr => ∃ (q : Int) (zs : List Int), k ≤ 8 ∧ r' = .int .i64 q ∧ 5 ≤ q ∧ q ≤ 1000 ∧ Reach k q n ∧ Y = zs ++ wayL k q n ∧ Grown wB zs v' wr)
  case atStart => exact ⟨r, [], Nat.le_refl _, rfl, r0, r1, hreach, hY.symm, H0⟩
  case round =>
    clear H0 hreach hY
    obtain ⟨q, zs, hk, rfl, q0, q1, hq, hYz, hso⟩ := hrel
    have hbw : Below wB.heap.size wB wr := hso.2.2
    have P2 := P1.below hbw
    have Q2 := Q1.below hbw
    obtain ⟨lP, cP, fP⟩ := id P2
    obtain ⟨lQ, cQ, fQ⟩ := id Q2
    have A2 : Below w.heap.size w wr := A1.trans (hbw.mono A1.size)
    have hsz := hbw.size
    have HS := Lib.hid hso
    have HO := Lib.hid hso.2.1
    have hzl : zs.length ≤ 8 := by
      have := congrArg List.length hYz
      rw [List.length_append] at this; omega
    obtain ⟨B, d, rfl, hd, hi⟩ := hso.form
    clear hso P1 Q1 A1
    by_cases hn : q = n
    · subst hn
      rw [way_done, List.append_nil] at hYz
      subst hYz
      have t1 : (q != q) = false := by simp
      clear HS hq
      go_wp2
      refine bodyPost_ret (v := .agg #[.slice B Y.length d, .int .i64 0]) (by simp [results, Try.results59, go_sem, cQ]) rfl ⟨B, d, rfl, hd, ?_, by (repeat (first | (with_reducible exact Below.refl _ _) | (with_reducible assumption) | (with_reducible refine Near.up _ ?_) | (with_reducible refine Below.drew ?_) | (with_reducible refine below_alloc_on ?_ _) | (with_reducible refine below_set_on ?_ (by first | (simp; done) | (simp; omega) | omega) _)))⟩
      exact own_far HO.out rfl (by simp [size_setCell]) (fun a ha => far2 _ _ _ _ _ _ a (by rw [hs] at ha; omega))
    · have t1 : (q != n) = true := by simpa using hn
      obtain ⟨j, rfl, hw⟩ := way_more hq hn
      rw [hw] at hYz
      have hr2 := reach_next hq q0 n0 hn
      have ⟨b0, b1⟩ := st_bd q0 q1 n0 n1
      have HT := Lib.hid (fun w => tt_step q n q0 q1 w)
      clear hw hq hd hi
      have HR := Lib.hid hr2
      clear hr2
      have HY := Lib.hid hYz
      clear hYz
      generalize stV q n = X at *
      go_wp2_with (first
        | (go_at_call 56; refine (HT.out _).mono ?_; rintro e w' ⟨rfl, rfl⟩)
        | (at_builtin; refine app_int rfl _ _ rfl X rfl rfl HO.out hsz (by omega) ?_))
      intro v' w1 hown' hg
      have hnext := Lib.hid (HS.out.next (by simpa [hs] using hown') hg)
      clear hown' hg HO HS
      go_wp2
      go_roundg j
      case rel => exact ⟨X, zs ++ [X], by omega, rfl, b0, b1, HR.out, by rw [HY.out]; simp, by simpa using hnext.out⟩
      case measure => omega
end Go.Proofs.Ythijabhnmjbboaa
