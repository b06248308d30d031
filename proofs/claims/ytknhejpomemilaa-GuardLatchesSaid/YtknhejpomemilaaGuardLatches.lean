/- GuardLatches holds of every guard of at most 100 drops and every 40 looks: what is held and armed is latched in that very tick, and stays, till it is acknowledged when it is not held; nothing else comes, and nothing else goes. No condition. -/
import Derived.Test.YtknhejpomemilaaGuardR
import Derived.Test.YtknhejpomemilaaBlks
import Derived.Deep.LoopGhost
import Derived.Deep.DeepCutAuto
namespace Go.Proofs.Ytknhejpomemilaa.guardLatches
open Go.ChangeShapes Go.WideShapes Go.ChangeAt Go.RowKit
set_option linter.unusedVariables false
set_option linter.unusedSimpArgs false
set_option maxRecDepth 100000
attribute [local go_sem] cell_set_ite Near.cell Near.frozen
attribute [local go_sem ↓] Go.wp_at_zero Go.wp_at_succ

/-- Nothing turns but block g; of what is older than z nothing at all. -/
def Ex (g z : Nat) (w w' : World) : Prop := Below z w w' ∧ w.heap.size ≤ w'.heap.size ∧ ∀ q, q ≠ g → q < w.heap.size → ∀ i, w'.cell? ⟨q, i, none⟩ = w.cell? ⟨q, i, none⟩
theorem Ex.refl (g z : Nat) (w : World) : Ex g z w w := ⟨Below.refl _ _, Nat.le_refl _, fun _ _ _ _ => rfl⟩
theorem Ex.trans {g z : Nat} {a b c : World} (h : Ex g z a b) (k : Ex g z b c) : Ex g z a c :=
  ⟨Below.trans h.1 k.1, Nat.le_trans h.2.1 k.2.1, fun q hq hl i => (k.2.2 q hq (Nat.lt_of_lt_of_le hl h.2.1) i).trans (h.2.2 q hq hl i)⟩
theorem Ex.call {g z : Nat} {a b : World} (hz : z ≤ a.heap.size) (h : Below a.heap.size a b) : Ex g z a b := ⟨h.mono hz, h.size, fun q hq hl i => h.cell (p := ⟨q, i, none⟩) hl⟩
theorem Ex.set {g z : Nat} {a b : World} (h : Ex g z a b) (hz : z ≤ g) (i : Nat) (v : Value) : Ex g z a (b.setCell ⟨g, i, none⟩ v) :=
  ⟨h.1.setCell (p := ⟨g, i, none⟩) hz v, by rw [size_setCell]; exact h.2.1, fun q hq hl j => (World.cell?_setCell_other b _ _ v (fun e => hq (congrArg Addr.block e).symm)).trans (h.2.2 q hq hl j)⟩
theorem ints_ex {g z m : Nat} {w w' : World} {B : Option Addr} {ys : List Int} (h : Ints w B m ys) (hne : 0 < m → ∀ b o, B = some ⟨b, o, none⟩ → b ≠ g) (he : Ex g z w w') : Ints w' B m ys := by
  refine ⟨h.1, fun h0 => ?_⟩
  obtain ⟨b, o, e, hl, hc⟩ := h.2 h0
  exact ⟨b, o, e, Nat.lt_of_lt_of_le hl he.2.1, fun i hi => (he.2.2 b (hne h0 b o e) hl _).trans (hc i hi)⟩
theorem range_in {w w' : World} {b o z : Nat} {cs : List Value} (h : w.rangeAt b o cs) (hb : Below z w w') (hz : b < z) : w'.rangeAt b o cs := fun j v hv => (hb.cell (p := ⟨b, o + j, none⟩) hz).trans (h j v hv)
theorem loose_load_at {P : Program} {ops : Array Oper} {Q : Exit → Act → World → Prop} {o : Oper} {a : Act} {w : World} {R : Value → World → Prop} (hg : o.guard = none) (ty : TypeId) (x : Operand) (ho : o.op = .load ty x) (b off : Nat) (hx : a.eval x = .pointer (some ⟨b, off, none⟩))
    (cs : List Value) (d : TypeDesc) (hb : w.rangeAt b off cs) (hu : P.underlying ty = some d) (hd : d.isRow = true) (hi : (P.info? ty).map (·.size) = some cs.length) (hR : R (.agg cs.toArray) w) : looseStep P ops o a w Q R := by
  refine loose_val (v := .agg cs.toArray) (w' := w) hg ?_ hR
  unfold execOp
  have h := run_loadAt_mid (P := P) w b off ty cs d hb hu hd hi
  simp only [ho, hx, h, Sem.run_bind, Sem.run_pure, Result.andThen_ok]
/-- What is known of block g in the region: it holds OLD till number 9 has filled it, which waits for the first eight. -/
def GL (g : Nat) (OLD : Array Value) (NEWP : Value → World → Prop) (L : Nat → Bool) (V : Nat → Value) (w : World) : Prop :=
  (L 9 = false → Box w g OLD) ∧ (L 9 = true → ∀ j, j < 8 → L j = true) ∧ (L 9 = true → NEWP (V 7) w)
section
variable {g : Nat} {OLD : Array Value} {NEWP : Value → World → Prop} {L : Nat → Bool} {V : Nat → Value} {w : World}
theorem GL.start (h : Box w g OLD) : GL g OLD NEWP (fun _ => false) V w := ⟨fun _ => h, fun h => (by cases h), fun h => (by cases h)⟩
theorem GL.congr {L' : Nat → Bool} {V' : Nat → Value} (h : GL g OLD NEWP L V w) (hl : ∀ j, L j = L' j) (hv : L 7 = true → V 7 = V' 7) : GL g OLD NEWP L' V' w := by
  refine ⟨fun h9 => h.1 (by rw [hl]; exact h9), fun h9 j hj => ?_, fun h9 => ?_⟩
  · rw [← hl]; exact h.2.1 (by rw [hl]; exact h9) j hj
  · have h9' : L 9 = true := by rw [hl]; exact h9
    rw [← hv (h.2.1 h9' 7 (by omega))]
    exact h.2.2 h9'
theorem GL.no9 (h : GL g OLD NEWP L V w) {n : Nat} (hn : n < 8) (hL : L n = false) : L 9 = false := by
  cases h9 : L 9 with
  | false => rfl
  | true => rw [h.2.1 h9 n hn] at hL; cases hL
theorem GL.early (h : GL g OLD NEWP L V w) {n : Nat} (hn : n < 8) (hL : L n = false) {v : Value} {w' : World} (hb : Box w' g OLD) : GL g OLD NEWP (fun j => if j = n then true else L j) (fun j => if j = n then v else V j) w' := by
  have h9 : (if 9 = n then true else L 9) = false := by rw [if_neg (by omega)]; exact h.no9 hn hL
  exact ⟨fun _ => hb, fun h => absurd (h9.symm.trans h) (by simp), fun h => absurd (h9.symm.trans h) (by simp)⟩
theorem GL.later (h : GL g OLD NEWP L V w) {n : Nat} (hn : n = 8 ∨ n = 10) {v : Value} : GL g OLD NEWP (fun j => if j = n then true else L j) (fun j => if j = n then v else V j) w := by
  have h9 : (if 9 = n then true else L 9) = L 9 := if_neg (by omega)
  refine ⟨fun h1 => h.1 (h9.symm.trans h1), fun h1 j hj => ?_, fun h1 => ?_⟩
  · show (if j = n then true else L j) = true
    rw [if_neg (by omega)]
    exact h.2.1 (h9.symm.trans h1) j hj
  · show NEWP (if 7 = n then v else V 7) w
    rw [if_neg (by omega)]
    exact h.2.2 (h9.symm.trans h1)
theorem GL.store (h : GL g OLD NEWP L V w) (hall : ∀ j, j < 8 → L j = true) {v : Value} {w' : World} (hp : NEWP (V 7) w') : GL g OLD NEWP (fun j => if j = 9 then true else L j) (fun j => if j = 9 then v else V j) w' := by
  refine ⟨fun h => (by cases h), fun _ j hj => ?_, fun _ => ?_⟩
  · show (if j = 9 then true else L j) = true
    rw [if_neg (by omega)]
    exact hall j hj
  · exact hp
end

set_option maxHeartbeats 8000000 in
theorem walk (W : World) (gd0 gd1 gl0 gl1 gp0 gp1 gla : Int) (A : Option Addr) (n c : Nat) (xs : List Int) (hi : Ints W A n xs) (hc : n ≤ c) (hr : n * 8 ≤ 140737488351232)
    (A1 : Option Addr) (n1 c1 : Nat) (rs : List (List Value)) (hrows : Rows lookLs W A1 n1 rs) (hc1 : n1 ≤ c1) (hr1 : n1 * 144 ≤ 140737488351232) :
    Calls Try.prog 3 #[.agg #[.int .i64 gd0, .int .i64 gd1, .int .i64 gl0, .int .i64 gl1, .int .i64 gp0, .int .i64 gp1, .slice A n c, .int .i64 gla], .slice A1 n1 c1] W fun e W' => e = .returned (.bool true) ∧ Below W.heap.size W W' := by
  have A0 : Below W.heap.size W W := Below.refl _ _
  clear hr1
  by_cases hn : 100 < n
  · have t1 : decide (100 < (n : Int)) = true := by simp; omega
    clear hi hrows
    go_enter Try.func3, Try.ntmps3
    go_wp2_with (go_at_call 7; refine (law35_awake _).mono ?_; rintro e w' ⟨rfl, hb⟩)
    all_goals go_ret
    all_goals exact ⟨rfl, below_call (by (repeat (first | (with_reducible exact Below.refl _ _) | (with_reducible assumption) | (with_reducible refine Near.up _ ?_) | (with_reducible refine Below.drew ?_) | (with_reducible refine below_alloc_on ?_ _) | (with_reducible refine below_set_on ?_ (by first | (simp; done) | (simp; omega) | omega) _)))) hb⟩
  have t1 : decide (100 < (n : Int)) = false := by simp; omega
  by_cases hn1 : 40 < n1
  · have t2 : decide (40 < (n1 : Int)) = true := by simp; omega
    clear hi hrows
    go_enter Try.func3, Try.ntmps3
    go_wp2_with (go_at_call 7; refine (law35_awake _).mono ?_; rintro e w' ⟨rfl, hb⟩)
    all_goals go_ret
    all_goals exact ⟨rfl, below_call (by (repeat (first | (with_reducible exact Below.refl _ _) | (with_reducible assumption) | (with_reducible refine Near.up _ ?_) | (with_reducible refine Below.drew ?_) | (with_reducible refine below_alloc_on ?_ _) | (with_reducible refine below_set_on ?_ (by first | (simp; done) | (simp; omega) | omega) _)))) hb⟩
  have t2 : decide (40 < (n1 : Int)) = false := by simp; omega
  have HR := Lib.hid hrows
  have HI := Lib.hid hi
  clear hrows hi
  go_enter Try.func3, Try.ntmps3
  go_upto_region 4 with (fail)
  refine at_world (fun w => Below W.heap.size W w ∧ Box w W.heap.size #[.int .i64 gd0, .int .i64 gd1, .int .i64 gl0, .int .i64 gl1, .int .i64 gp0, .int .i64 gp1, .slice A n c, .int .i64 gla]) ⟨by (repeat (first | (with_reducible exact Below.refl _ _) | (with_reducible assumption) | (with_reducible refine Near.up _ ?_) | (with_reducible refine Below.drew ?_) | (with_reducible refine below_alloc_on ?_ _) | (with_reducible refine below_set_on ?_ (by first | (simp; done) | (simp; omega) | omega) _))), by (repeat (first | (with_reducible assumption) | (with_reducible exact box_new _ _ _) | ((with_reducible apply box_at); (first | (with_reducible rfl) | (simp <;> omega))) | (with_reducible apply Box.drew) | (with_reducible apply Box.drewN) | (with_reducible apply Box.near) | (with_reducible apply Box.alloc) | ((with_reducible apply box_far); (first | assumption | omega | (simp <;> omega))) | ((with_reducible apply Box.one_set); (with_reducible assumption)) | ((with_reducible apply Box.two_set); (with_reducible assumption)) | ((with_reducible apply Box.three_set); (with_reducible assumption)) | (with_reducible apply Box.set) | (simp only [List.size_toArray, List.length_cons, List.length_nil, Array.size_setIfInBounds] <;> omega)))⟩ ?_
  clear A0
  rintro w1 ⟨B1, G1⟩
  obtain ⟨g, hg⟩ : ∃ g, W.heap.size = g := ⟨_, rfl⟩
  have og : W.heap.size ≤ g := by omega
  rw [hg] at G1
  simp only [hg]
  have gW : ¬ g < W.heap.size := by omega
  clear hg
  have HB1 := Lib.hid B1
  have HG1 := Lib.hid G1
  clear B1 G1
  go_wp2
  go_loopg [5, 24] n1 (fun gk v i wr => ∃ (k m d : Nat) (B : Option Addr) (ys : List Int) (d0 d1 l0 l1 p0 p1 la : Int), k ≤ n1 ∧ gk = n1 - k ∧ i = .int .i64 k ∧ v = .int .i64 (bits .and .i64 la 4095) ∧ Below W.heap.size W wr ∧
    Box wr g #[.int .i64 d0, .int .i64 d1, .int .i64 l0, .int .i64 l1, .int .i64 p0, .int .i64 p1, .slice B m d, .int .i64 la] ∧ Ints wr B m ys ∧ m ≤ d ∧ m ≤ 512 ∧ (0 < m → ∀ b o, B = some ⟨b, o, none⟩ → b ≠ g))
  case atStart => exact ⟨0, n, c, A, xs, gd0, gd1, gl0, gl1, gp0, gp1, gla, Nat.zero_le _, rfl, rfl, rfl, HB1.out, HG1.out, (show Ints w1 A n xs from by (have h1 := HB1.out; exact HI.out.below h1)), hc, by omega, fun h0 b o e => by obtain ⟨b', o', e', hl, _⟩ := HI.out.2 h0; rw [e'] at e; cases e; omega⟩
  case round =>
    clear HB1 HG1
    obtain ⟨k, m, d, B, ys, d0, d1, l0, l1, p0, p1, la, hk, hgk, rfl, rfl, A2, G2, hiB, hd, hm, hBg⟩ := hrel
    by_cases hlt : k < n1
    · obtain ⟨b, off, kl, rfl, hbs, hrow⟩ := rows_look HR.out hlt
      have HGK := Lib.hid hgk
      have HRW := Lib.hid hrow
      have HIB := Lib.hid hiB
      clear hgk hrow hiB
      have hlt' : (k : Int) < n1 := by omega
      obtain ⟨ws, hws⟩ : ∃ ws, bits .and .i64 la 4095 = ws := ⟨_, rfl⟩
      rw [hws]
      have HWS := Lib.hid hws
      clear hws
      go_upto_region 8 with (fail)
      obtain ⟨zs, hzs⟩ : ∃ zs, pnL ys kl.t kl.dr (liV kl.r kl.s) = zs := ⟨_, rfl⟩
      obtain ⟨zn, hzn⟩ : ∃ zn, zs.length = zn := ⟨_, rfl⟩
      have hL512 : zn ≤ 512 := by rw [← hzn, ← hzs]; exact pn_len _ _ _ _
      obtain ⟨HE, hHE⟩ : ∃ HE, heV kl zs (drA d0 d1 kl) (drB d0 d1 kl) (loS l0 (inB kl.m) kl.dr) (loW l1 (inB kl.m) (svB kl)) (poT p0 kl.ti) (poB p1 kl.ba) = HE := ⟨_, rfl⟩
      have hE0 : 0 ≤ HE ∧ HE ≤ 4095 := by rw [← hHE]; exact he_bd _ _ _ _ _ _ _ _
      obtain ⟨hE0, hE1⟩ := hE0
      have hs := fun w hi => g_step B m d ys d0 d1 l0 l1 p0 p1 la kl w hi hd (by omega) zs hzs zn hzn HE hHE
      have hLA := la_is la HE kl hE0 hE1
      have hLB := la_bd la HE kl
      obtain ⟨hL0, hL1⟩ := hLB
      rw [HWS.out] at hLA
      generalize laV la HE kl = LA at *
      generalize drA d0 d1 kl = D0 at *
      generalize drB d0 d1 kl = D1 at *
      generalize loS l0 (inB kl.m) kl.dr = L0 at *
      generalize loW l1 (inB kl.m) (svB kl) = L1 at *
      generalize poT p0 kl.ti = P0 at *
      generalize poB p1 kl.ba = P1 at *
      have HS := Lib.hid hs
      have HLA := Lib.hid hLA
      have HZ := Lib.hid A2.size
      have HGL := Lib.hid G2.1
      have HG2 := Lib.hid G2
      have HRX := Lib.hid (show (World.drew wr).rangeAt b (off + k * 23) (lkC kl).toList from (range_in HRW.out A2 hbs : wr.rangeAt b (off + k * 23) (lkC kl).toList))
      have HIX := Lib.hid (show ∀ u, Ex g W.heap.size wr.drew u → Ints u B m ys from fun u hE => ints_ex (show Ints wr.drew B m ys from HIB.out) hBg hE)
      have HA2 := Lib.hid A2
      clear hs hHE hzs hzn hLA A2 G2 t1 t2
      go_cut [7] (fun v7 wx => v7 = .int .i64 HE ∧ ∃ (B' : Option Addr) (d' : Nat), zn ≤ d' ∧ Ints wx B' zn zs ∧ (∀ b o, B' = some ⟨b, o, none⟩ → b ≠ g) ∧ Below W.heap.size W wx ∧ Box wx g #[.int .i64 D0, .int .i64 D1, .int .i64 L0, .int .i64 L1, .int .i64 P0, .int .i64 P1, .slice B' zn d', .int .i64 LA])
      case first =>
        obtain ⟨cs, hcs⟩ : ∃ cs : Nat → Value, (fun i => match i with
          | 0 => .agg #[.int .i64 d0, .int .i64 d1, .int .i64 l0, .int .i64 l1, .int .i64 p0, .int .i64 p1, .slice B m d, .int .i64 la]
          | 1 => .slice (some ⟨b, off, none⟩) n1 c1
          | 2 => .int .i64 k
          | 3 => .pointer (some ⟨b, off + k * 23, none⟩)
          | 4 => .agg (lkC kl)
          | 8 => .int .i64 HE
          | 10 => .int .i64 HE
          | _ => undef) = cs := ⟨_, rfl⟩
        have e0 : cs 0 = .agg #[.int .i64 d0, .int .i64 d1, .int .i64 l0, .int .i64 l1, .int .i64 p0, .int .i64 p1, .slice B m d, .int .i64 la] := by rw [← hcs]; rfl
        have e1 : cs 1 = .slice (some ⟨b, off, none⟩) n1 c1 := by rw [← hcs]; rfl
        have e2 : cs 2 = .int .i64 k := by rw [← hcs]; rfl
        have e3 : cs 3 = .pointer (some ⟨b, off + k * 23, none⟩) := by rw [← hcs]; rfl
        have e4 : cs 4 = .agg (lkC kl) := by rw [← hcs]; rfl
        have e8 : cs 8 = .int .i64 HE := by rw [← hcs]; rfl
        have e10 : cs 10 = .int .i64 HE := by rw [← hcs]; rfl
        clear hcs
        refine wp_region_looseS 11 70 (by as_aux_lemma => kernel_rfl) (by as_aux_lemma => kernel_rfl) rfl (Ex g W.heap.size) (Ex.refl _ _) (fun a b c h g => Ex.trans h g)
          (looseD (fun i => if i = 5 then some (fun v w => ∃ (B' : Option Addr) (d' : Nat), v = .tuple #[.agg #[.int .i64 D0, .int .i64 D1, .int .i64 L0, .int .i64 L1, .int .i64 P0, .int .i64 P1, .slice B' zn d', .int .i64 LA], .int .i64 HE] ∧ zn ≤ d' ∧ Ints w B' zn zs ∧ ∀ b o, B' = some ⟨b, o, none⟩ → b ≠ g ∧ W.heap.size ≤ b) else if i = 6 then some (fun v w => ∃ (B' : Option Addr) (d' : Nat), v = .tuple #[.agg #[.int .i64 D0, .int .i64 D1, .int .i64 L0, .int .i64 L1, .int .i64 P0, .int .i64 P1, .slice B' zn d', .int .i64 LA], .int .i64 HE] ∧ zn ≤ d' ∧ Ints w B' zn zs ∧ ∀ b o, B' = some ⟨b, o, none⟩ → b ≠ g ∧ W.heap.size ≤ b) else if i = 7 then some (fun v w => ∃ (B' : Option Addr) (d' : Nat), v = .agg #[.int .i64 D0, .int .i64 D1, .int .i64 L0, .int .i64 L1, .int .i64 P0, .int .i64 P1, .slice B' zn d', .int .i64 LA] ∧ zn ≤ d' ∧ Ints w B' zn zs ∧ ∀ b o, B' = some ⟨b, o, none⟩ → b ≠ g ∧ W.heap.size ≤ b) else if i = 9 then some (fun _ _ => True) else none) cs)
          (GL g #[.int .i64 d0, .int .i64 d1, .int .i64 l0, .int .i64 l1, .int .i64 p0, .int .i64 p1, .slice B m d, .int .i64 la] (fun v w => ∃ (B' : Option Addr) (d' : Nat), v = .agg #[.int .i64 D0, .int .i64 D1, .int .i64 L0, .int .i64 L1, .int .i64 P0, .int .i64 P1, .slice B' zn d', .int .i64 LA] ∧ zn ≤ d' ∧ Ints w B' zn zs ∧ (∀ b o, B' = some ⟨b, o, none⟩ → b ≠ g ∧ W.heap.size ≤ b) ∧ Box w g #[.int .i64 D0, .int .i64 D1, .int .i64 L0, .int .i64 L1, .int .i64 P0, .int .i64 P1, .slice B' zn d', .int .i64 LA])) (looseD_stable ?_) (fun L L' V V' w hl hv h => h.congr hl (fun h7 => hv 7 h7 (by decide +kernel))) (GL.start HG2.out.drew) ?_ ?_
        · intro i p hp v u u' h hE
          split at hp
          · cases hp; obtain ⟨B', d', h1, h2, h3, h4⟩ := h; exact ⟨B', d', h1, h2, ints_ex h3 (fun _ b o e => (h4 b o e).1) hE, h4⟩
          · split at hp
            · cases hp; obtain ⟨B', d', h1, h2, h3, h4⟩ := h; exact ⟨B', d', h1, h2, ints_ex h3 (fun _ b o e => (h4 b o e).1) hE, h4⟩
            · split at hp
              · cases hp; obtain ⟨B', d', h1, h2, h3, h4⟩ := h; exact ⟨B', d', h1, h2, ints_ex h3 (fun _ b o e => (h4 b o e).1) hE, h4⟩
              · split at hp
                · cases hp; trivial
                · cases hp
        · simp only [List.take_succ_cons, List.take_zero]
          refine looseSAll_cons (k := 1) rfl (fun a u L hE hev hkn hLi hG => ?_) ?_
          · have kc : ∀ c, a.eval (.const c) = c := fun _ => rfl
            have kf : ∀ f, a.eval (.func f) = .func (.func f) #[] #[] := fun _ => rfl
            have t2 : a.eval (.tmp 2) = .pointer (some ⟨g, 0, none⟩) := hev 2 (by kernel_rfl)
            have cg := (hG.1 (hG.no9 (n := 0) (by omega) hLi)).2.1
            exact loose_val rfl (v := .agg #[.int .i64 d0, .int .i64 d1, .int .i64 l0, .int .i64 l1, .int .i64 p0, .int .i64 p1, .slice B m d, .int .i64 la]) (by generalize a.eval = ev at *; simp [go_sem, kc, kf, t2, cg]) ⟨Ex.refl _ _ _, e0.symm, hG.early (n := 0) (by omega) hLi (hG.1 (hG.no9 (n := 0) (by omega) hLi))⟩
          refine looseSAll_cons (k := 2) rfl (fun a u L hE hev hkn hLi hG => ?_) ?_
          · have kc : ∀ c, a.eval (.const c) = c := fun _ => rfl
            have kf : ∀ f, a.eval (.func f) = .func (.func f) #[] #[] := fun _ => rfl
            have t1 : a.eval (.tmp 1) = .slice (some ⟨b, off, none⟩) n1 c1 := hev 1 (by kernel_rfl)
            exact loose_val rfl (v := .slice (some ⟨b, off, none⟩) n1 c1) (by generalize a.eval = ev at *; simp [go_sem, kc, kf, t1]) ⟨Ex.refl _ _ _, e1.symm, hG.early (n := 1) (by omega) hLi (hG.1 (hG.no9 (n := 1) (by omega) hLi))⟩
          refine looseSAll_cons (k := 3) rfl (fun a u L hE hev hkn hLi hG => ?_) ?_
          · have kc : ∀ c, a.eval (.const c) = c := fun _ => rfl
            have kf : ∀ f, a.eval (.func f) = .func (.func f) #[] #[] := fun _ => rfl
            have t6 : a.eval (.tmp 6) = .int .i64 k := hev 6 (by kernel_rfl)
            exact loose_val rfl (v := .int .i64 k) (by generalize a.eval = ev at *; simp [go_sem, kc, kf, t6]) ⟨Ex.refl _ _ _, e2.symm, hG.early (n := 2) (by omega) hLi (hG.1 (hG.no9 (n := 2) (by omega) hLi))⟩
          refine looseSAll_cons (k := 4) rfl (fun a u L hE hev hkn hLi hG => ?_) ?_
          · have kc : ∀ c, a.eval (.const c) = c := fun _ => rfl
            have kf : ∀ f, a.eval (.func f) = .func (.func f) #[] #[] := fun _ => rfl
            have t29 : a.eval (.tmp 29) = .slice (some ⟨b, off, none⟩) n1 c1 := ((hkn 1 (by kernel_rfl)).2 (by decide +kernel) : a.eval (.tmp 29) = cs 1).trans e1
            have t30 : a.eval (.tmp 30) = .int .i64 k := ((hkn 2 (by kernel_rfl)).2 (by decide +kernel) : a.eval (.tmp 30) = cs 2).trans e2
            exact loose_val rfl (v := .pointer (some ⟨b, off + k * 23, none⟩)) (by generalize a.eval = ev at *; simp [go_sem, kc, kf, t29, t30, hlt, hlt']) ⟨Ex.refl _ _ _, e3.symm, hG.early (n := 3) (by omega) hLi (hG.1 (hG.no9 (n := 3) (by omega) hLi))⟩
          refine looseSAll_cons (k := 5) rfl (fun a u L hE hev hkn hLi hG => ?_) ?_
          · have kc : ∀ c, a.eval (.const c) = c := fun _ => rfl
            have kf : ∀ f, a.eval (.func f) = .func (.func f) #[] #[] := fun _ => rfl
            have t31 : a.eval (.tmp 31) = .pointer (some ⟨b, off + k * 23, none⟩) := ((hkn 3 (by kernel_rfl)).2 (by decide +kernel) : a.eval (.tmp 31) = cs 3).trans e3
            exact loose_load_at rfl _ _ rfl b (off + k * 23) t31 (lkC kl).toList _ (range_in HRX.out hE.1 hbs) Try.underlying42 rfl (by kernel_rfl) ⟨Ex.refl _ _ _, e4.symm, hG.early (n := 4) (by omega) hLi (hG.1 (hG.no9 (n := 4) (by omega) hLi))⟩
          refine looseSAll_cons (k := 6) rfl (fun a u L hE hev hkn hLi hG => ?_) ?_
          · have kc : ∀ c, a.eval (.const c) = c := fun _ => rfl
            have kf : ∀ f, a.eval (.func f) = .func (.func f) #[] #[] := fun _ => rfl
            have t28 : a.eval (.tmp 28) = .agg #[.int .i64 d0, .int .i64 d1, .int .i64 l0, .int .i64 l1, .int .i64 p0, .int .i64 p1, .slice B m d, .int .i64 la] := ((hkn 0 (by kernel_rfl)).2 (by decide +kernel) : a.eval (.tmp 28) = cs 0).trans e0
            have t32 : a.eval (.tmp 32) = .agg (lkC kl) := ((hkn 4 (by kernel_rfl)).2 (by decide +kernel) : a.eval (.tmp 32) = cs 4).trans e4
            have hz : W.heap.size ≤ u.heap.size := Nat.le_trans HZ.out hE.2.1
            have hgl : g < u.heap.size := Nat.lt_of_lt_of_le HGL.out hE.2.1
            exact loose_call rfl (by generalize a.eval = ev at *; simp [go_sem, kc, kf, t28, t32]) ((HS.out u (HIX.out u hE)).mono fun e u' h => by obtain ⟨B', d', he, h1, h2, h3, h4⟩ := h; exact ⟨_, he, Ex.call hz h4, ⟨B', d', rfl, h1, h2, fun b o e => by have := h3 b o e; exact ⟨by omega, by omega⟩⟩, hG.early (n := 5) (by omega) hLi ((hG.1 (hG.no9 (n := 5) (by omega) hLi)).below h4)⟩)
          refine looseSAll_cons (k := 7) rfl (fun a u L hE hev hkn hLi hG => ?_) ?_
          · have kc : ∀ c, a.eval (.const c) = c := fun _ => rfl
            have kf : ∀ f, a.eval (.func f) = .func (.func f) #[] #[] := fun _ => rfl
            obtain ⟨B', d', t33, q1, q2, q3⟩ : ∃ (B' : Option Addr) (d' : Nat), a.eval (.tmp 33) = .tuple #[.agg #[.int .i64 D0, .int .i64 D1, .int .i64 L0, .int .i64 L1, .int .i64 P0, .int .i64 P1, .slice B' zn d', .int .i64 LA], .int .i64 HE] ∧ zn ≤ d' ∧ Ints u B' zn zs ∧ ∀ b o, B' = some ⟨b, o, none⟩ → b ≠ g ∧ W.heap.size ≤ b := (hkn 5 (by kernel_rfl)).2 (by decide +kernel)
            exact loose_val rfl (v := .tuple #[.agg #[.int .i64 D0, .int .i64 D1, .int .i64 L0, .int .i64 L1, .int .i64 P0, .int .i64 P1, .slice B' zn d', .int .i64 LA], .int .i64 HE]) (by generalize a.eval = ev at *; simp [go_sem, kc, kf, t33]) ⟨Ex.refl _ _ _, ⟨B', d', rfl, q1, q2, q3⟩, hG.early (n := 6) (by omega) hLi (hG.1 (hG.no9 (n := 6) (by omega) hLi))⟩
          refine looseSAll_cons (k := 8) rfl (fun a u L hE hev hkn hLi hG => ?_) ?_
          · have kc : ∀ c, a.eval (.const c) = c := fun _ => rfl
            have kf : ∀ f, a.eval (.func f) = .func (.func f) #[] #[] := fun _ => rfl
            obtain ⟨B', d', t27, q1, q2, q3⟩ : ∃ (B' : Option Addr) (d' : Nat), a.eval (.tmp 27) = .tuple #[.agg #[.int .i64 D0, .int .i64 D1, .int .i64 L0, .int .i64 L1, .int .i64 P0, .int .i64 P1, .slice B' zn d', .int .i64 LA], .int .i64 HE] ∧ zn ≤ d' ∧ Ints u B' zn zs ∧ ∀ b o, B' = some ⟨b, o, none⟩ → b ≠ g ∧ W.heap.size ≤ b := (hkn 6 (by kernel_rfl)).2 (by decide +kernel)
            exact loose_val rfl (v := .agg #[.int .i64 D0, .int .i64 D1, .int .i64 L0, .int .i64 L1, .int .i64 P0, .int .i64 P1, .slice B' zn d', .int .i64 LA]) (by generalize a.eval = ev at *; simp [go_sem, kc, kf, t27]) ⟨Ex.refl _ _ _, ⟨B', d', rfl, q1, q2, q3⟩, hG.early (n := 7) (by omega) hLi (hG.1 (hG.no9 (n := 7) (by omega) hLi))⟩
          refine looseSAll_cons (k := 9) rfl (fun a u L hE hev hkn hLi hG => ?_) ?_
          · have kc : ∀ c, a.eval (.const c) = c := fun _ => rfl
            have kf : ∀ f, a.eval (.func f) = .func (.func f) #[] #[] := fun _ => rfl
            obtain ⟨B', d', t27, q1, q2, q3⟩ : ∃ (B' : Option Addr) (d' : Nat), a.eval (.tmp 27) = .tuple #[.agg #[.int .i64 D0, .int .i64 D1, .int .i64 L0, .int .i64 L1, .int .i64 P0, .int .i64 P1, .slice B' zn d', .int .i64 LA], .int .i64 HE] ∧ zn ≤ d' ∧ Ints u B' zn zs ∧ ∀ b o, B' = some ⟨b, o, none⟩ → b ≠ g ∧ W.heap.size ≤ b := (hkn 6 (by kernel_rfl)).2 (by decide +kernel)
            exact loose_val rfl (v := .int .i64 HE) (by generalize a.eval = ev at *; simp [go_sem, kc, kf, t27]) ⟨Ex.refl _ _ _, e8.symm, hG.later (n := 8) (by omega)⟩
          refine looseSAll_cons (k := 10) rfl (fun a u L hE hev hkn hLi hG => ?_) ?_
          · have kc : ∀ c, a.eval (.const c) = c := fun _ => rfl
            have kf : ∀ f, a.eval (.func f) = .func (.func f) #[] #[] := fun _ => rfl
            have t2 : a.eval (.tmp 2) = .pointer (some ⟨g, 0, none⟩) := hev 2 (by kernel_rfl)
            obtain ⟨B', d', t34, q1, q2, q3⟩ : ∃ (B' : Option Addr) (d' : Nat), a.eval (.tmp 34) = .agg #[.int .i64 D0, .int .i64 D1, .int .i64 L0, .int .i64 L1, .int .i64 P0, .int .i64 P1, .slice B' zn d', .int .i64 LA] ∧ zn ≤ d' ∧ Ints u B' zn zs ∧ ∀ b o, B' = some ⟨b, o, none⟩ → b ≠ g ∧ W.heap.size ≤ b := (hkn 7 (by kernel_rfl)).2 (by decide +kernel)
            have hB := hG.1 hLi
            have cg := hB.2.1
            have fg := hB.2.2
            have lg := hB.1
            have hx : Ex g W.heap.size u (World.setCell (World.setCell (World.setCell (World.setCell (World.setCell (World.setCell (World.setCell (World.setCell u ⟨g, 0, none⟩ (.int .i64 D0)) ⟨g, 1, none⟩ (.int .i64 D1)) ⟨g, 2, none⟩ (.int .i64 L0)) ⟨g, 3, none⟩ (.int .i64 L1)) ⟨g, 4, none⟩ (.int .i64 P0)) ⟨g, 5, none⟩ (.int .i64 P1)) ⟨g, 6, none⟩ (.slice B' zn d')) ⟨g, 7, none⟩ (.int .i64 LA)) := ((((((((Ex.refl g W.heap.size u).set og 0 (.int .i64 D0)).set og 1 (.int .i64 D1)).set og 2 (.int .i64 L0)).set og 3 (.int .i64 L1)).set og 4 (.int .i64 P0)).set og 5 (.int .i64 P1)).set og 6 (.slice B' zn d')).set og 7 (.int .i64 LA)
            exact loose_store rfl rfl (w' := (World.setCell (World.setCell (World.setCell (World.setCell (World.setCell (World.setCell (World.setCell (World.setCell u ⟨g, 0, none⟩ (.int .i64 D0)) ⟨g, 1, none⟩ (.int .i64 D1)) ⟨g, 2, none⟩ (.int .i64 L0)) ⟨g, 3, none⟩ (.int .i64 L1)) ⟨g, 4, none⟩ (.int .i64 P0)) ⟨g, 5, none⟩ (.int .i64 P1)) ⟨g, 6, none⟩ (.slice B' zn d')) ⟨g, 7, none⟩ (.int .i64 LA))) (by generalize a.eval = ev at *; simp [go_sem, kc, kf, t2, t34, cg, fg, lg]) ⟨hx, trivial, hG.store (fun j hj => by match j, hj with | 0, _ => exact (hkn 0 (by kernel_rfl)).1 | 1, _ => exact (hkn 1 (by kernel_rfl)).1 | 2, _ => exact (hkn 2 (by kernel_rfl)).1 | 3, _ => exact (hkn 3 (by kernel_rfl)).1 | 4, _ => exact (hkn 4 (by kernel_rfl)).1 | 5, _ => exact (hkn 5 (by kernel_rfl)).1 | 6, _ => exact (hkn 6 (by kernel_rfl)).1 | 7, _ => exact (hkn 7 (by kernel_rfl)).1) ⟨B', d', t34, q1, ints_ex q2 (fun _ b o e => (q3 b o e).1) hx, q3, Box.eight_put hB (.int .i64 D0) (.int .i64 D1) (.int .i64 L0) (.int .i64 L1) (.int .i64 P0) (.int .i64 P1) (.slice B' zn d') (.int .i64 LA)⟩⟩
          refine looseSAll_cons (k := 11) rfl (fun a u L hE hev hkn hLi hG => ?_) ?_
          · have kc : ∀ c, a.eval (.const c) = c := fun _ => rfl
            have kf : ∀ f, a.eval (.func f) = .func (.func f) #[] #[] := fun _ => rfl
            have t35 : a.eval (.tmp 35) = .int .i64 HE := ((hkn 8 (by kernel_rfl)).2 (by decide +kernel) : a.eval (.tmp 35) = cs 8).trans e8
            exact loose_val rfl (v := .int .i64 HE) (by generalize a.eval = ev at *; simp [go_sem, kc, kf, t35]) ⟨Ex.refl _ _ _, e10.symm, hG.later (n := 10) (by omega)⟩
          exact looseSAll_nil
        · intro a w2 hE hsz hdf hO hDD hG
          have hOO : ∀ s, isDst _ s = false → a.tmps.getD s undef = (List.toArray (.agg #[.int .i64 gd0, .int .i64 gd1, .int .i64 gl0, .int .i64 gl1, .int .i64 gp0, .int .i64 gp1, .slice A n c, .int .i64 gla] :: .slice (some ⟨b, off, none⟩) n1 c1 :: .pointer (some ⟨g, 0, none⟩) :: undef :: u4 :: .int .i64 ws :: .int .i64 k :: .int .i64 0 :: u8 :: .pointer (some ⟨g, 6, none⟩) :: .slice A n c :: .int .i64 n :: .bool false :: .bool false :: .slice (some ⟨b, off, none⟩) n1 c1 :: .int .i64 n1 :: .bool false :: .bool false :: undef :: .pointer (some ⟨g, 7, none⟩) :: .int .i64 gla :: .int .i64 (bits .and .i64 gla 4095) :: .slice (some ⟨b, off, none⟩) n1 c1 :: .int .i64 n1 :: .int .i64 k :: .bool true :: .int .i64 k :: u27 :: u28 :: u29 :: u30 :: u31 :: u32 :: u33 :: u34 :: u35 :: u36 :: u37 :: u38 :: u39 :: u40 :: u41 :: u42 :: u43 :: u44 :: u45 :: u46 :: u47 :: u48 :: u49 :: u50 :: u51 :: u52 :: u53 :: u54 :: u55 :: u56 :: u57 :: u58 :: u59 :: u60 :: u61 :: u62 :: u63 :: u64 :: u65 :: u66 :: u67 :: u68 :: undef :: []) : Array Value).getD s undef := fun s h => by rw [Array.getD_eq_getD_getElem?, Array.getD_eq_getD_getElem?, hO s h]
          obtain ⟨B', d', f34, hd', hi', hnb, G3⟩ := hG.2.2 (by decide)
          replace f34 : a.tmps.getD 34 undef = .agg #[.int .i64 D0, .int .i64 D1, .int .i64 L0, .int .i64 L1, .int .i64 P0, .int .i64 P1, .slice B' zn d', .int .i64 LA] := f34
          obtain ⟨x27, f27⟩ : ∃ x, a.tmps.getD 27 undef = x := ⟨_, rfl⟩
          obtain ⟨x33, f33⟩ : ∃ x, a.tmps.getD 33 undef = x := ⟨_, rfl⟩
          obtain rfl := act_lit (ys := (List.toArray (.agg #[.int .i64 gd0, .int .i64 gd1, .int .i64 gl0, .int .i64 gl1, .int .i64 gp0, .int .i64 gp1, .slice A n c, .int .i64 gla] :: .slice (some ⟨b, off, none⟩) n1 c1 :: .pointer (some ⟨g, 0, none⟩) :: undef :: u4 :: .int .i64 ws :: .int .i64 k :: .int .i64 HE :: u8 :: .pointer (some ⟨g, 6, none⟩) :: .slice A n c :: .int .i64 n :: .bool false :: .bool false :: .slice (some ⟨b, off, none⟩) n1 c1 :: .int .i64 n1 :: .bool false :: .bool false :: undef :: .pointer (some ⟨g, 7, none⟩) :: .int .i64 gla :: .int .i64 (bits .and .i64 gla 4095) :: .slice (some ⟨b, off, none⟩) n1 c1 :: .int .i64 n1 :: .int .i64 k :: .bool true :: .int .i64 k :: x27 :: .agg #[.int .i64 d0, .int .i64 d1, .int .i64 l0, .int .i64 l1, .int .i64 p0, .int .i64 p1, .slice B m d, .int .i64 la] :: .slice (some ⟨b, off, none⟩) n1 c1 :: .int .i64 k :: .pointer (some ⟨b, off + k * 23, none⟩) :: .agg (lkC kl) :: x33 :: .agg #[.int .i64 D0, .int .i64 D1, .int .i64 L0, .int .i64 L1, .int .i64 P0, .int .i64 P1, .slice B' zn d', .int .i64 LA] :: .int .i64 HE :: u36 :: u37 :: u38 :: u39 :: u40 :: u41 :: u42 :: u43 :: u44 :: u45 :: u46 :: u47 :: u48 :: u49 :: u50 :: u51 :: u52 :: u53 :: u54 :: u55 :: u56 :: u57 :: u58 :: u59 :: u60 :: u61 :: u62 :: u63 :: u64 :: u65 :: u66 :: u67 :: u68 :: undef :: []))) hdf hsz (fun s hs => match s, hs with
            | 0, _ => hOO 0 (by kernel_rfl)
            | 1, _ => hOO 1 (by kernel_rfl)
            | 2, _ => hOO 2 (by kernel_rfl)
            | 3, _ => hOO 3 (by kernel_rfl)
            | 4, _ => hOO 4 (by kernel_rfl)
            | 5, _ => hOO 5 (by kernel_rfl)
            | 6, _ => hOO 6 (by kernel_rfl)
            | 7, _ => ((hDD 10 (by omega) (by decide +kernel)) : a.tmps.getD 7 undef = cs 10).trans e10
            | 8, _ => hOO 8 (by kernel_rfl)
            | 9, _ => hOO 9 (by kernel_rfl)
            | 10, _ => hOO 10 (by kernel_rfl)
            | 11, _ => hOO 11 (by kernel_rfl)
            | 12, _ => hOO 12 (by kernel_rfl)
            | 13, _ => hOO 13 (by kernel_rfl)
            | 14, _ => hOO 14 (by kernel_rfl)
            | 15, _ => hOO 15 (by kernel_rfl)
            | 16, _ => hOO 16 (by kernel_rfl)
            | 17, _ => hOO 17 (by kernel_rfl)
            | 18, _ => hOO 18 (by kernel_rfl)
            | 19, _ => hOO 19 (by kernel_rfl)
            | 20, _ => hOO 20 (by kernel_rfl)
            | 21, _ => hOO 21 (by kernel_rfl)
            | 22, _ => hOO 22 (by kernel_rfl)
            | 23, _ => hOO 23 (by kernel_rfl)
            | 24, _ => hOO 24 (by kernel_rfl)
            | 25, _ => hOO 25 (by kernel_rfl)
            | 26, _ => hOO 26 (by kernel_rfl)
            | 27, _ => f27
            | 28, _ => ((hDD 0 (by omega) (by decide +kernel)) : a.tmps.getD 28 undef = cs 0).trans e0
            | 29, _ => ((hDD 1 (by omega) (by decide +kernel)) : a.tmps.getD 29 undef = cs 1).trans e1
            | 30, _ => ((hDD 2 (by omega) (by decide +kernel)) : a.tmps.getD 30 undef = cs 2).trans e2
            | 31, _ => ((hDD 3 (by omega) (by decide +kernel)) : a.tmps.getD 31 undef = cs 3).trans e3
            | 32, _ => ((hDD 4 (by omega) (by decide +kernel)) : a.tmps.getD 32 undef = cs 4).trans e4
            | 33, _ => f33
            | 34, _ => f34
            | 35, _ => ((hDD 8 (by omega) (by decide +kernel)) : a.tmps.getD 35 undef = cs 8).trans e8
            | 36, _ => hOO 36 (by kernel_rfl)
            | 37, _ => hOO 37 (by kernel_rfl)
            | 38, _ => hOO 38 (by kernel_rfl)
            | 39, _ => hOO 39 (by kernel_rfl)
            | 40, _ => hOO 40 (by kernel_rfl)
            | 41, _ => hOO 41 (by kernel_rfl)
            | 42, _ => hOO 42 (by kernel_rfl)
            | 43, _ => hOO 43 (by kernel_rfl)
            | 44, _ => hOO 44 (by kernel_rfl)
            | 45, _ => hOO 45 (by kernel_rfl)
            | 46, _ => hOO 46 (by kernel_rfl)
            | 47, _ => hOO 47 (by kernel_rfl)
            | 48, _ => hOO 48 (by kernel_rfl)
            | 49, _ => hOO 49 (by kernel_rfl)
            | 50, _ => hOO 50 (by kernel_rfl)
            | 51, _ => hOO 51 (by kernel_rfl)
            | 52, _ => hOO 52 (by kernel_rfl)
            | 53, _ => hOO 53 (by kernel_rfl)
            | 54, _ => hOO 54 (by kernel_rfl)
            | 55, _ => hOO 55 (by kernel_rfl)
            | 56, _ => hOO 56 (by kernel_rfl)
            | 57, _ => hOO 57 (by kernel_rfl)
            | 58, _ => hOO 58 (by kernel_rfl)
            | 59, _ => hOO 59 (by kernel_rfl)
            | 60, _ => hOO 60 (by kernel_rfl)
            | 61, _ => hOO 61 (by kernel_rfl)
            | 62, _ => hOO 62 (by kernel_rfl)
            | 63, _ => hOO 63 (by kernel_rfl)
            | 64, _ => hOO 64 (by kernel_rfl)
            | 65, _ => hOO 65 (by kernel_rfl)
            | 66, _ => hOO 66 (by kernel_rfl)
            | 67, _ => hOO 67 (by kernel_rfl)
            | 68, _ => hOO 68 (by kernel_rfl)
            | 69, _ => hOO 69 (by kernel_rfl)
            | (k + 70), h => absurd h (by simp))
          go_wp2
          go_meet
          exact ⟨rfl, B', d', hd', hi', fun b o e => (hnb b o e).1, Below.trans (show Below W.heap.size W wr.drew from by (have h := HA2.out; (repeat (first | (with_reducible exact Below.refl _ _) | (with_reducible assumption) | (with_reducible refine Near.up _ ?_) | (with_reducible refine Below.drew ?_) | (with_reducible refine below_alloc_on ?_ _) | (with_reducible refine below_set_on ?_ (by first | (simp; done) | (simp; omega) | omega) _))))) hE.1, G3⟩
      case rest =>
        obtain ⟨rfl, B', d', hd', hi', hnb, A3, G3⟩ := hcut
        clear HA2 HG2 HIX HRX HZ HGL HIB HS
        go_upto_region 9 with (fail)
        refine at_world (fun w => Ints w B' zn zs ∧ Below W.heap.size W w ∧ Box w g #[.int .i64 D0, .int .i64 D1, .int .i64 L0, .int .i64 L1, .int .i64 P0, .int .i64 P1, .slice B' zn d', .int .i64 LA]) ⟨hi', A3, G3⟩ ?_
        clear hi' A3 G3
        rintro w3 ⟨hi3, A3, G3⟩
        have hkr := range_in HRW.out A3 hbs
        have hk22 : w3.cell? ⟨b, off + k * 23 + 22, none⟩ = some (.bool kl.ak) := hkr 22 _ rfl
        have hk1 : w3.cell? ⟨b, off + k * 23 + 1, none⟩ = some (.int .i64 kl.m) := hkr 1 _ rfl
        have cg7 : w3.cell? ⟨g, 7, none⟩ = some (.int .i64 LA) := G3.2.1 7
        have lg3 : g < w3.heap.size := G3.1
        have lb3 : b < w3.heap.size := Nat.lt_of_lt_of_le hbs A3.size
        have HI3 := Lib.hid hi3
        have HA3 := Lib.hid A3
        have HG3 := Lib.hid G3
        clear hkr hi3 A3 G3
        obtain ⟨ar, har⟩ : ∃ ar, arV kl.m = ar := ⟨_, rfl⟩
        have HARM := Lib.hid (fun w => (g_arm kl.m w).mono fun e w' (h : e = .returned (.int .i64 (arV kl.m)) ∧ w = w') => (⟨h.1, h.2 ▸ Below.refl _ _⟩ : e = .returned (.int .i64 (arV kl.m)) ∧ Below w.heap.size w w'))
        have hLA := HLA.out
        rw [har] at HARM hLA
        obtain ⟨x1, hx1⟩ : ∃ x1, bits .and .i64 HE ar = x1 := ⟨_, rfl⟩
        rw [hx1] at hLA
        obtain ⟨st, hst⟩ : ∃ st, (if kl.ak = true then bits .and .i64 ws HE else ws) = st := ⟨_, rfl⟩
        rw [hst] at hLA
        have HST := Lib.hid hst
        have hLA2 := hLA.symm
        clear hst har HLA hLA
        generalize kl.ak = ak at *
        go_upto_if 41 with (fail)
        go_cut [8] (fun v8 wx => v8 = .int .i64 st ∧ wx = w3)
        case first =>
          have hst := HST.out
          clear HST
          cases ak
          · rw [if_neg (by simp)] at hst
            go_wp2
            go_meet
            exact ⟨by rw [hst], rfl⟩
          · rw [if_pos rfl] at hst
            go_wp2
            go_meet
            exact ⟨rfl, rfl⟩
        case rest =>
          obtain ⟨rfl, rfl⟩ := hcut
          clear HST
          have tl : decide (HE < 0) = false := by simp; omega
          have tg : decide (4095 < HE) = false := by simp; omega
          have te : (LA != LA) = false := by simp
          go_upto_region 12 with (fail)
          refine wp_region_calm (by kernel_rfl) (by kernel_rfl) ?_
          repeat (go_big_quiet_step (((go_at_call 9; exact calm_of _ (HARM.out _)))))
          refine wpQuiet_nil ?_
          intro _ hw'
          obtain ⟨u, rfl⟩ := hw'
          have A4 := below_call HA3.out u.below
          have G4 := HG3.out.near u
          have hi4 := HI3.out.below u.below
          clear HA3 HG3 HI3 cg7 hk1 hk22 lg3 lb3
          generalize u.at_ = w4 at *
          clear u
          have cg7 : w4.cell? ⟨g, 7, none⟩ = some (.int .i64 LA) := G4.2.1 7
          have HA4 := Lib.hid A4
          have HG4 := Lib.hid G4
          have HI4 := Lib.hid hi4
          clear A4 G4 hi4
          go_wp2
          go_roundg (n1 - (k + 1))
          case measure => have := HGK.out; omega
          case rel => exact ⟨k + 1, zn, d', B', zs, D0, D1, L0, L1, P0, P1, LA, by omega, rfl, by go_num, by rw [ws_id hL0 hL1], HA4.out, HG4.out, HI4.out, hd', hL512, fun _ => hnb⟩
    · have t3 : decide ((k : Int) < (n1 : Int)) = false := by simp; omega
      have HA := Lib.hid A2
      clear A2 G2 hiB hgk
      go_wp2_with (go_at_call 7; refine (law35_awake _).mono ?_; rintro e w' ⟨rfl, hb⟩)
      all_goals go_ret
      all_goals exact ⟨rfl, below_call HA.out hb⟩

set_option maxRecDepth 100000 in
theorem lifted (os : Os) (started : os.Started) (H : Type) (enc : TypeId × Value → H) :
    ReturnsInHanded {} Try.checked os 3 .any (Rows.guardLatchesSpec.pre6 enc Try.prog Try.f3 Rows.guardLatchesRow.domain false) (Rows.guardLatchesSpec.post enc Try.prog Try.f3 false true false false) := by
  refine law_lift started (by kernel_rfl) Try.func3 rfl rfl ?_ (by kernel_rfl)
    (ChangeSpec.witness6 (enc := enc) (C := Try.checked) false ⟨#[], #[.agg #[.int .i64 0, .int .i64 0, .int .i64 0, .int .i64 0, .int .i64 0, .int .i64 0, .slice none 0 0, .int .i64 0], .slice none 0 0], []⟩ 8 (by kernel_rfl) (by kernel_rfl) (by kernel_rfl) (by kernel_rfl)) ?_
  · intro ds hl
    match ds, hl with
    | [_, _], _ => exact ⟨rfl, rfl, rfl⟩
  · intro W base args ds p hval hA hlt hwt
    rw [Try.params3] at hA hval hwt
    obtain ⟨v0, vs0, d0, ds0, p0, q0, hargs, rfl, rfl, h0, r0⟩ := trodAll_cons hA
    obtain ⟨v1, vs1, d1, ds1, p1, q1, rfl, rfl, rfl, h1, r1⟩ := trodAll_cons r0
    obtain ⟨rfl, rfl, rfl⟩ := trodAll_nil r1
    obtain rfl : args = #[v0, v1] := by cases args; simp_all
    have wt0 : ∀ n ∈ d0.weights Try.prog 30, n ≤ reachBytes := fun n hn => by
      have := List.all_eq_true.1 hwt n (DataW.weights_mem_each (j := 0) (t := 30) (d := d0) rfl rfl n hn)
      simpa using this
    have lt0 : ∀ x ∈ p0, x.block < W.heap.size := fun x hx => hlt x (by simp [hx])
    obtain ⟨g0_0, g0_1, g0_2, g0_3, g0_4, g0_5, g0_6, A0, n0, c0, xs0, rfl, hi0, hc0, hr0⟩ := open_guard (hval 0 30 v0 rfl rfl) h0 lt0 wt0
    have wt1 : ∀ n ∈ d1.weights Try.prog 31, n ≤ reachBytes := fun n hn => by
      have := List.all_eq_true.1 hwt n (DataW.weights_mem_each (j := 1) (t := 31) (d := d1) rfl rfl n hn)
      simpa using this
    have lt1 : ∀ x ∈ p1, x.block < W.heap.size := fun x hx => hlt x (by simp [hx])
    obtain ⟨A1, n1, c1, xs1, rfl, hi1, hc1, hr1⟩ := open_rows_arg 5 [.int .i64, .int .i64, .int .i64, .int .i64, .int .i64, .bool, .bool, .bool, .bool, .int .i64, .int .i64, .int .i64, .int .i64, .bool, .int .i64, .bool, .int .i64, .int .i64, .bool, .int .i64, .bool, .bool, .bool] Try.underlying31 (by kernel_rfl) (by kernel_rfl) (by decide) (by kernel_rfl) (hval 1 31 v1 rfl rfl) h1 lt1 wt1
    exact walk W g0_0 g0_1 g0_2 g0_3 g0_4 g0_5 g0_6 A0 n0 c0 xs0 hi0 hc0 hr0 A1 n1 c1 xs1 hi1 hc1 hr1

theorem over : Rows.guardLatchesRow.holds Try.pinned (OpenSpec.ofChange Rows.guardLatchesSpec) :=
  OpenClaim.holds_of_wide 3 Try.f3 rfl rfl rfl rfl rfl rfl rfl ⟨rfl, rfl, rfl, rfl, rfl⟩ rfl rfl rfl rfl rfl (by kernel_rfl) Try.func3 (by kernel_rfl)
    (of_decide_eq_true (by kernel_rfl)) (by unfold Func.isWrapper; first | (rw [if_pos (by decide +kernel)]; kernel_rfl) | (rw [if_neg (by decide +kernel)]; exact ⟨rfl, rfl⟩))
    (fun os started H enc _ => lifted os started H enc)

theorem proved : Rows.GuardLatchesSaid := over
#print axioms proved
end Go.Proofs.Ytknhejpomemilaa.guardLatches
