/- The law package's 'with': formulas, one behind the other, and a part; what such a formula is. -/
import Derived.Test.YtmemhlhjkpijpaaLaw57
import Derived.Test.YtmemhlhjkpijpaaRefI
namespace Go.Proofs.Ytmemhlhjkpijpaa
open Go.RowKit
set_option linter.unusedVariables false
set_option linter.unusedSimpArgs false
set_option maxRecDepth 100000
attribute [local go_sem] cell_set_ite Near.cell Near.frozen

def tmJ (ts us : Nat → Tm) (n : Nat) : Nat → Tm := fun i => if i < n then ts i else us (i - n)
theorem tmL_congr {ts us : Nat → Tm} : ∀ {n}, (∀ i, i < n → ts i = us i) → tmL ts n = tmL us n
  | 0, _ => rfl
  | k + 1, h => by unfold tmL; rw [tmL_congr (n := k) (fun i hi => h i (by omega)), h k (by omega)]
theorem tmL_join (ts us : Nat → Tm) (n : Nat) : ∀ m, tmL ts n ++ tmL us m = tmL (tmJ ts us n) (n + m)
  | 0 => by rw [show tmL us 0 = [] from rfl, List.append_nil]; exact tmL_congr (fun i hi => (if_pos hi).symm)
  | k + 1 => by
    show tmL ts n ++ (tmL us k ++ _) = tmL (tmJ ts us n) (n + k) ++ _
    rw [← List.append_assoc, tmL_join ts us n k]
    have e : tmJ ts us n (n + k) = us k := by
      unfold tmJ
      rw [if_neg (by omega), show n + k - n = k by omega]
    rw [show tmJ ts us n (n.add k) = us k from e]
/-- What stands one behind the other: the first k. -/
def catN (N : Nat → Nat) : Nat → Nat
  | 0 => 0
  | k + 1 => catN N k + N k
def catF (N : Nat → Nat) (U : Nat → Nat → Tm) : Nat → Nat → Tm
  | 0 => fun _ => ⟨0, 0, 0⟩
  | k + 1 => tmJ (catF N U k) (U k) (catN N k)
theorem app_terms {ops : Array Oper} {rest : List Oper} {o : Oper} {a : Act} {Q : Exit → Act → World → Prop} {w : World} (hgd : o.guard = none) (s x : Operand)
    (ho : o.op = .call { callee := .builtin .append, args := #[s, x], argTypes := #[22, 22] }) {base n m c : Nat} {v : Value} {A : Option Addr} {ts us : Nat → Tm}
    (hs : a.eval s = v) (hx : a.eval x = .slice A m c) (hy : Terms w A m us) (h0 : 0 < m) (hown : w.ownsRow base 36 3 v n (tmL ts n)) (hb : base ≤ w.heap.size) (hn : n + m ≤ 100000)
    (hK : ∀ v' w', w'.ownsRow base 36 3 v' (n + m) (tmL (tmJ ts us n) (n + m)) → w.grownBy w' v.ownBlock → wpList Try.prog ops Q rest (a.put o.dst v') w') :
    wpList Try.prog ops Q (o :: rest) a w := by
  obtain ⟨i0, hi0, hz0, hz1, hz2⟩ := info_parts term_info
  obtain ⟨b, off, rfl, _, hc⟩ := hy.2 h0
  refine wpList_append_own _ hgd s x 22 ho base 36 i0 _ 3 24 Try.underlying22 hi0 hz0 hz1 hz2 rfl (by decide) v n (tmL ts n) hs hown ⟨b, off, none⟩ m c (tmL us m) hx (tmL_len us m) ?_ (tmL_one us m) (by unfold maxLen; omega) (by omega) hb (fun v' w' h1 h2 _ => hK v' w' (by rw [← tmL_join]; exact h1) h2)
  intro j u hj
  have hl := tmL_len us m
  have hj3 : j < m * 3 := by have := (List.getElem?_eq_some_iff.1 hj).1; omega
  obtain ⟨i, r, hr, rfl⟩ : ∃ i r, r < 3 ∧ j = i * 3 + r := ⟨j / 3, j % 3, by omega, by omega⟩
  obtain ⟨k0, k1, k2⟩ := tmL_at us m i (by omega)
  obtain ⟨d0, d1, d2⟩ := hc i (by omega)
  rw [Addr.add_lit]
  match r, hr with
  | 0, _ => rw [Nat.add_zero] at hj ⊢; rw [d0, ← k0, hj]
  | 1, _ => rw [show off + (i * 3 + 1) = off + i * 3 + 1 by omega, d1, ← k1, hj]
  | 2, _ => rw [show off + (i * 3 + 2) = off + i * 3 + 2 by omega, d2, ← k2, hj]
def WiR (n : Nat) (ts : Nat → Tm) (w : World) (r : Ending) (w' : World) : Prop := ∃ g d, r = .returned (.slice (some ⟨g, 0, none⟩) n d) ∧ Terms w' (some ⟨g, 0, none⟩) n ts ∧ n ≤ d ∧ w.heap.size ≤ g ∧ g < w'.heap.size ∧ Below w.heap.size w w'
set_option maxHeartbeats 4000000 in
theorem lw_with (t : Tm) (L : Option Addr) (k lc : Nat) (P : Nat → Option Addr) (N C : Nat → Nat) (U : Nat → Nat → Tm) (w : World) (ht : t.b ≤ 9223372036854775807) (hL : Vals w L k (fun i => .slice (P i) (N i) (C i))) (hP : ∀ i, i < k → Terms w (P i) (N i) (U i) ∧ 0 < N i ∧ N i ≤ 10) (hk : k ≤ 2)
    (hbd : ∀ i, i < catN N k + 1 → (tmJ (catF N U k) (fun _ => t) (catN N k) i).b ≤ 9223372036854775807) :
    Calls Try.prog 14 #[t.val, .slice L k lc] w (WiR (catN N k + 1) (tmJ (catF N U k) (fun _ => t) (catN N k)) w) := by
  have HV := Lib.hid (fun w' (hb : Below w.heap.size w w') => hL.below hb)
  have HP := Lib.hid (fun i (hi : i < k) w' (hb : Below w.heap.size w w') => And.intro ((hP i hi).1.below hb) (hP i hi).2)
  have HBD := Lib.hid hbd
  have hcat : ∀ j, j ≤ k → catN N j ≤ 10 * j := by
    intro j
    induction j with
    | zero => intro _; exact Nat.le_refl _
    | succ j ih =>
      intro hj
      have := ih (by omega)
      have := (hP j (by omega)).2.2
      unfold catN; omega
  have HCAT := Lib.hid hcat
  have A0 := below_alloc_on (Below.refl w.heap.size w) (.cells #[.int .i64 t.op, .int .i64 t.a, .int .i64 t.b] 36)
  have BX := box_new w #[.int .i64 t.op, .int .i64 t.a, .int .i64 t.b] 36
  unfold Tm.val
  clear hL hP hbd hcat
  go_enter Try.func14, Try.ntmps14
  go_upto_region 2 with (fail)
  refine at_world (fun W => Below w.heap.size w W ∧ Box W w.heap.size #[.int .i64 t.op, .int .i64 t.a, .int .i64 t.b]) ⟨A0, BX⟩ ?_
  obtain ⟨g, hg⟩ : ∃ g, w.heap.size = g := ⟨_, rfl⟩
  have hgw : w.heap.size ≤ g := by omega
  simp only [hg]
  rintro w1 ⟨A1, B1⟩
  rw [← hg] at A1
  have sg := B1.1
  clear A0 BX hg
  go_wp2_with (fail)
  go_loopg [5, 6, 9] k (fun gk v y i wr => ∃ j : Nat, j ≤ k ∧ gk = k - j ∧ i = .int .i64 j ∧ wr.ownsRow w1.heap.size 36 3 v (catN N j) (tmL (catF N U j) (catN N j)) ∧ Below w1.heap.size w1 wr)
  case atStart => exact ⟨0, by omega, rfl, rfl, World.ownsRow_nil _ _ _ _, Below.refl _ _⟩
  case round =>
    obtain ⟨j, hj, rfl, rfl, hown, X1⟩ := hrel
    have Xw := A1.trans (X1.mono A1.size)
    have hc10 := HCAT.out j hj
    by_cases hlt : j < k
    · obtain ⟨q, qo, rfl, lq, hq⟩ := HV.out _ Xw (by omega)
      have q0 : wr.cell? ⟨q, qo + j, none⟩ = some (.slice (P j) (N j) (C j)) := hq j hlt
      obtain ⟨hT, h0, h10⟩ := HP.out j hlt _ Xw
      have HT := Lib.hid hT
      have HO := Lib.hid hown
      have sz := X1.size
      have HNX := Lib.hid (show tmL (catF N U (j + 1)) (catN N (j + 1)) = tmL (tmJ (catF N U j) (U j) (catN N j)) (catN N j + N j) from rfl)
      have HNN := Lib.hid (show catN N (j + 1) = catN N j + N j from rfl)
      clear hq hT hown
      generalize catN N j = cn at *
      generalize catF N U j = cf at *
      generalize N j = nj at *
      generalize P j = pj at *
      generalize C j = cj at *
      generalize U j = uj at *
      go_wp2_with (at_builtin; refine app_terms rfl _ _ rfl rfl rfl HT.out h0 HO.out sz (by omega) ?_)
      intro v' w3 h1 h2
      have O3 := Lib.hid h1
      have X3 := Lib.hid (show Below w1.heap.size w1 w3 from X1.grown h2 sz (fun z hz => (HO.out.lt z hz).1))
      clear h1 h2 HT HO
      go_wp2_with (fail)
      go_roundg (k - (j + 1))
      case measure => omega
      case rel => exact ⟨j + 1, by omega, by omega, by go_num, by rw [HNX.out, HNN.out]; exact O3.out, X3.out⟩
    · obtain rfl : j = k := by omega
      have HO := Lib.hid hown
      have sz := X1.size
      obtain ⟨b0, b1, b2, bf, bl⟩ := (B1.below X1).three
      obtain ⟨cn, hcn⟩ : ∃ cn, catN N j = cn := ⟨_, rfl⟩
      obtain ⟨cf, hcf⟩ : ∃ cf, catF N U j = cf := ⟨_, rfl⟩
      have HQ := Lib.hid (And.intro hcn hcf)
      rw [hcn, hcf] at HO HBD
      rw [hcn] at hc10
      clear hown HV HP HCAT hcn hcf
      go_wp2_with (at_builtin; refine app_term rfl _ _ rfl t rfl rfl HO.out sz (by omega) ?_)
      intro v' w3 h1 h2
      have X3 : Below w1.heap.size w1 w3 := (below_alloc_on X1 _).grown h2 (by simp; omega) (fun z hz => (HO.out.lt z hz).1)
      have e1 : tmL cf cn ++ [.int .i64 t.op, .int .i64 t.a, .int .i64 t.b] = tmL (tmJ cf (fun _ => t) cn) (cn + 1) := tmL_join cf (fun _ => t) cn 1
      rw [e1] at h1
      obtain ⟨Pv, dv, rfl, hpd⟩ : ∃ B d, v' = .slice B (cn + 1) d ∧ cn + 1 ≤ d := by
        rcases h1.2 with ⟨hv, e0⟩ | ⟨g, cap, cur, hv, _, _, hnc, _⟩
        · omega
        · exact ⟨_, cap, hv, hnc⟩
      obtain ⟨g3, rfl, hT, hge, hlg⟩ := Terms.of_own HBD.out h1 (by omega)
      have HX := Lib.hid (show Terms w3 (some ⟨g3, 0, none⟩) (cn + 1) (tmJ cf (fun _ => t) cn) ∧ cn + 1 ≤ dv ∧ w.heap.size ≤ g3 ∧ g3 < w3.heap.size ∧ Below w.heap.size w w3 from ⟨hT, hpd, by have := A1.size; omega, hlg, A1.trans (X3.mono A1.size)⟩)
      clear h1 h2 X3 e1 hT hge hlg hpd b0 b1 b2 bf bl HO HBD
      go_wp2_with (fail)
      all_goals go_ret
      all_goals exact ⟨g3, dv, by rw [HQ.out.1]; rfl, by rw [HQ.out.1, HQ.out.2]; exact HX.out⟩
end Go.Proofs.Ytmemhlhjkpijpaa
