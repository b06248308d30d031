/- The document's formula: where a part begins, a copy, what a formula needs. -/
import Derived.Test.YtmemhlhjkpijpaaHolC
import Derived.Test.YtmemhlhjkpijpaaRef58B
namespace Go.Proofs.Ytmemhlhjkpijpaa
open Go.RowKit
set_option linter.unusedVariables false
set_option linter.unusedSimpArgs false
set_option maxRecDepth 100000
attribute [local go_sem] cell_set_ite Near.cell Near.frozen

def StaR (ts : Nat → Tm) (e : Nat) (w : World) (r : Ending) (w' : World) : Prop := ∃ b : Nat, r = .returned (.int .i64 b) ∧ Bgn ts e b ∧ Below w.heap.size w w'
set_option maxHeartbeats 4000000 in
theorem r6_start (A : Option Addr) (n c e : Nat) (ts : Nat → Tm) (w : World) (h : Terms w A n ts) (ho : okB ts n = true) (he : e ≤ n) (h1 : 1 ≤ rdN ts e) (hn : n ≤ 100000) :
    Calls Try.prog 56 #[.slice A n c, .int .i64 ((e : Int) - 1)] w (StaR ts e w) := by
  have HI := Lib.hid (fun w' (hb : Below w.heap.size w w') => h.below hb)
  have HO := Lib.hid (fun k (hk : k < n) => rd_next ts hk ho)
  have HK := Lib.hid (fun k (hk : k < n) => hk_at ts hk ho)
  have HN := Lib.hid (fun k (hk : k < n) => n2_of (hk_at ts hk ho).1)
  have H2 := Lib.hid (fun op a b w => r6_needs op a b w)
  have A0 : Below w.heap.size w w := Below.refl _ _
  have e1 : 1 ≤ e := by have := rdN_le ts e; omega
  clear h ho
  go_enter Try.func56, Try.ntmps56
  go_wp2_with (fail)
  go_loopg [5, 6] e (fun gk y x wr => ∃ k : Nat, k + 1 ≤ e ∧ gk = k + 1 ∧ x = .int .i64 k ∧ y = .int .i64 ((1 + rdN ts (k + 1) : Nat) - (rdN ts e : Nat) : Int) ∧ rdN ts e ≤ rdN ts (k + 1) ∧ (∀ q, k < q → q ≤ e → rdN ts e ≤ rdN ts q) ∧ Below w.heap.size w wr)
  case atStart =>
    refine ⟨e - 1, by omega, by omega, ?_, ?_, ?_, fun q h1 h2 => ?_, A0⟩
    · congr 1; omega
    · rw [show e - 1 + 1 = e by omega]; congr 1; omega
    · rw [show e - 1 + 1 = e by omega]; omega
    · obtain rfl : q = e := by omega
      omega
  case round =>
    clear A0
    obtain ⟨k, hk, rfl, rfl, rfl, hle, hq, A1⟩ := hrel
    have HQ := Lib.hid hq
    clear hq
    obtain ⟨b, off, rfl, hbs, hcell⟩ := (HI.out _ A1).2 (by omega)
    obtain ⟨c0, c1, c2⟩ := hcell k (by omega)
    have hx := HO.out k (by omega)
    have hd := (HK.out k (by omega)).2
    have h2 := HN.out k (by omega)
    have hnl := nd_le (ts k).op
    have hrk := rdN_le ts k
    have hre := rdN_le ts e
    have hrk1 := rdN_le ts (k + 1)
    have w1 : IntKind.i64.wrap ((ndN (ts k).op : Int) - 1) = (ndN (ts k).op : Int) - 1 := by rw [IntKind.wrap_i64]; omega
    have w2 : IntKind.i64.wrap (((1 + rdN ts (k + 1) : Nat) - (rdN ts e : Nat) : Int) + ((ndN (ts k).op : Int) - 1)) = ((1 + rdN ts k : Nat) - (rdN ts e : Nat) : Int) := by rw [IntKind.wrap_i64]; omega
    have kp : (0 : Int) ≤ (k : Int) := by omega
    have kl : (k : Int) < (n : Int) := by omega
    have wk : IntKind.i64.wrap ((k : Int) - 1) = (k : Int) - 1 := by rw [IntKind.wrap_i64]; omega
    have HC := Lib.hid (fun w' => H2.out (ts k).op (ts k).a (ts k).b w')
    rw [h2] at HC
    by_cases hz : rdN ts k + 1 = rdN ts e
    · have HB := Lib.hid (show Bgn ts e k from ⟨by omega, hz, HQ.out⟩)
      have tz : ((1 + rdN ts k : Nat) - (rdN ts e : Nat) : Int) = 0 := by omega
      rw [tz] at w2
      clear HQ hcell hx hd h2 hz hle hrk hre hrk1 tz hnl HK HN HO
      generalize ((1 + rdN ts (k + 1) : Nat) - (rdN ts e : Nat) : Int) = y0 at *
      go_wp2_with (go_at_call 45; refine (HC.out _).mono ?_; rintro r w3 ⟨rfl, hb⟩; have A3 := below_call A1 hb; clear hb)
      all_goals go_ret
      all_goals exact ⟨k, rfl, HB.out, A3⟩
    · have k0 : 0 < k := by
        rcases Nat.eq_zero_or_pos k with e0 | e0
        · subst e0
          have : rdN ts 0 = 0 := rfl
          omega
        · exact e0
      have HQ2 := Lib.hid (show ∀ q, k - 1 < q → q ≤ e → rdN ts e ≤ rdN ts q from fun q h1 h2 => by
        by_cases e1 : q = k
        · rw [e1]; omega
        · exact HQ.out q (by omega) h2)
      have HR := Lib.hid (show rdN ts e ≤ rdN ts k by omega)
      have tz : (((1 + rdN ts k : Nat) - (rdN ts e : Nat) : Int) == 0) = false := by simp; omega
      obtain ⟨y1, hy1⟩ : ∃ y1, ((1 + rdN ts k : Nat) - (rdN ts e : Nat) : Int) = y1 := ⟨_, rfl⟩
      have HY := Lib.hid hy1
      rw [hy1] at w2 tz
      clear HQ hcell hx hd h2 hz hle hrk hre hrk1 hnl HK HN HO hy1
      generalize ((1 + rdN ts (k + 1) : Nat) - (rdN ts e : Nat) : Int) = y0 at *
      go_wp2_with (go_at_call 45; refine (HC.out _).mono ?_; rintro r w3 ⟨rfl, hb⟩; have A3 := below_call A1 hb; clear hb)
      go_roundg k
      case measure => omega
      case rel => exact ⟨k - 1, by omega, by omega, by congr 1; omega, by rw [← HY.out, show k - 1 + 1 = k by omega], by rw [show k - 1 + 1 = k by omega]; exact HR.out, HQ2.out, A3⟩

/-- 'append' of one part. -/
theorem app_term {ops : Array Oper} {rest : List Oper} {o : Oper} {a : Act} {Q : Exit → Act → World → Prop} {w : World} (hgd : o.guard = none) (s x : Operand)
    (ho : o.op = .call { callee := .builtin .append, args := #[s, x], argTypes := #[22, 22] }) {base n : Nat} {cs : List Value} {v : Value} (t : Tm)
    (hs : a.eval s = v) (hx : a.eval x = .slice (some ⟨w.heap.size, 0, none⟩) 1 1) (hown : w.ownsRow base 36 3 v n cs) (hb : base ≤ w.heap.size) (hn : n ≤ 100000)
    (hK : ∀ v' w', w'.ownsRow base 36 3 v' (n + 1) (cs ++ [.int .i64 t.op, .int .i64 t.a, .int .i64 t.b]) → (w.alloc (.cells #[.int .i64 t.op, .int .i64 t.a, .int .i64 t.b] 36)).grownBy w' v.ownBlock → wpList Try.prog ops Q rest (a.put o.dst v') w') :
    wpList Try.prog ops Q (o :: rest) a (w.alloc (.cells #[.int .i64 t.op, .int .i64 t.a, .int .i64 t.b] 36)) := by
  obtain ⟨i0, hi0, hz0, hz1, hz2⟩ := info_parts term_info
  refine wpList_append_own _ hgd s x 22 ho base 36 i0 _ 3 24 Try.underlying22 hi0 hz0 hz1 hz2 rfl (by decide) v n cs hs (hown.alloc _) ⟨w.heap.size, 0, none⟩ 1 1 [.int .i64 t.op, .int .i64 t.a, .int .i64 t.b] hx rfl ?_ ?_ (by unfold maxLen; omega) (by omega) (by simp; omega) (fun v' w' h1 h2 _ => hK v' w' h1 h2)
  · intro j u hj
    match j, hj with
    | 0, hj => simp at hj; subst hj; simp [Addr.add]
    | 1, hj => simp at hj; subst hj; simp [Addr.add]
    | 2, hj => simp at hj; subst hj; simp [Addr.add]
  · intro u hu; simp at hu; rcases hu with rfl | rfl | rfl <;> rfl
set_option maxHeartbeats 2000000 in
theorem r6_copied (A : Option Addr) (n c : Nat) (ts : Nat → Tm) (w : World) (h : Terms w A n ts) (h0 : 0 < n) (hn : n ≤ 100000) :
    Calls Try.prog 55 #[.slice A n c] w (CloR ts n w) := by
  have HI := Lib.hid (fun w' (hb : Below w.heap.size w w') => h.below hb)
  have HBD := Lib.hid h.1
  clear h
  go_enter Try.func55, Try.ntmps55
  go_wp2_with (fail)
  go_loopg [3, 4, 7] n (fun gk v y i wr => ∃ k : Nat, k ≤ n ∧ gk = n - k ∧ i = .int .i64 k ∧ wr.ownsRow w.heap.size 36 3 v k (tmL ts k) ∧ Below w.heap.size w wr)
  case atStart => exact ⟨0, by omega, rfl, rfl, World.ownsRow_nil _ _ _ _, Below.refl _ _⟩
  case round =>
    obtain ⟨k, hk, rfl, rfl, hown, A1⟩ := hrel
    by_cases hlt : k < n
    · obtain ⟨b, off, rfl, hbs, hcell⟩ := (HI.out _ A1).2 (by omega)
      obtain ⟨c0, c1, c2⟩ := hcell k hlt
      have HO := Lib.hid hown
      have sz := A1.size
      have HNX := Lib.hid (show tmL ts (k + 1) = tmL ts k ++ [.int .i64 (ts k).op, .int .i64 (ts k).a, .int .i64 (ts k).b] from rfl)
      clear hown hcell
      obtain ⟨t, ht⟩ : ∃ t, ts k = t := ⟨_, rfl⟩
      rw [ht] at c0 c1 c2 HNX
      clear ht
      go_wp2_with (at_builtin; refine app_term rfl _ _ rfl t rfl rfl HO.out sz (by omega) ?_)
      intro v' w3 h1 h2
      have O3 := Lib.hid h1
      have A3 := Lib.hid (show Below w.heap.size w w3 from (below_alloc_on A1 _).grown h2 (by simp; omega) (fun q hq => (HO.out.lt q hq).1))
      clear h1 h2
      go_wp2_with (fail)
      go_roundg (n - (k + 1))
      case measure => omega
      case rel => exact ⟨k + 1, by omega, by omega, by go_num, by rw [HNX.out]; exact O3.out, A3.out⟩
    · obtain rfl : k = n := by omega
      obtain ⟨P, d, rfl, hkd⟩ : ∃ B d, u3 = .slice B k d ∧ k ≤ d := by
        rcases hown.2 with ⟨hv, e0⟩ | ⟨g, cap, cur, hv, _, _, hnc, _⟩
        · omega
        · exact ⟨_, cap, hv, hnc⟩
      obtain ⟨g, rfl, hT, hge, hlg⟩ := Terms.of_own HBD.out hown h0
      have HX := Lib.hid (show Terms wr (some ⟨g, 0, none⟩) k ts ∧ w.heap.size ≤ g ∧ g < wr.heap.size ∧ Below w.heap.size w wr ∧ k ≤ d from ⟨hT, hge, hlg, A1, hkd⟩)
      clear hown hT HBD hkd
      go_wp2_with (fail)
      all_goals go_ret
      all_goals exact ⟨g, d, rfl, HX.out⟩
end Go.Proofs.Ytmemhlhjkpijpaa
