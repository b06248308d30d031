/- A guard, and looks, as arguments; the latch bit for bit. -/
import Derived.Test.YtmocppghmdeahaaGreatGuardN
import Derived.Test.YtmocppghmdeahaaGreatLeaf
import Derived.Test.YtmocppghmdeahaaGreatLift
import Derived.Lib.SmallJoins
namespace Go.Proofs.YtmocppghmdeahaaGreat
open Go.ChangeShapes Go.WideShapes Go.ChangeAt Go.RowKit Go.Deep Go.Joins
set_option linter.unusedVariables false
set_option linter.unusedSimpArgs false
set_option maxRecDepth 100000

/-- A cell that reads as a list of numbers. -/
theorem ints_of_trod {H : Type} {enc : TypeId × Value → H} {P : Program} {W : World} {t e : TypeId} {fuel : Nat} {v : Value} {y : DataW H × List MemPlace}
    (ht : P.underlying t = some (.slice e)) (he : P.underlying e = some (.int .i64)) (hc : P.cellsOf e = 1) (hb : P.bytesOf e = 8)
    (hf : DataW.trod enc P W 0 (fun _ => true) true fuel t [v] = some y) (hlt : ∀ x ∈ y.2, x.block < W.heap.size)
    (hw : ∀ n ∈ y.1.weights P t, n ≤ reachBytes) :
    ∃ A n c xs, v = .slice A n c ∧ Ints W A n xs ∧ n ≤ c ∧ n * 8 ≤ 140737488351232 := by
  rcases open_ints ht he hc hf with ⟨hcs, hx⟩ | ⟨a, len, cap, zs, hcs, _, hl, hm, hz, hx, hcell, hwz⟩
  · simp at hcs
    subst hcs
    exact ⟨none, 0, 0, [], rfl, ⟨rfl, fun h => absurd h (by omega)⟩, by omega, by omega⟩
  · simp at hcs
    subst hcs
    subst hx
    simp only [if_true] at hz
    have hwt : ((zs.take len).length + (zs.drop len).length) * 8 ≤ 140737488351232 := by
      have := hw (((zs.take len).length + (zs.drop len).length) * 8) (by simp [DataW.weights, ht, hb, lits])
      simpa [reachBytes] using this
    refine ⟨some a, len, cap, zs.take len, rfl, ⟨by simp; omega, fun hn => ?_⟩, hl, by simp at hwt; omega⟩
    obtain ⟨b, off, rfl, hc2⟩ := ints_at hcell (by omega)
    refine ⟨b, off, rfl, hlt (.cell b off) ?_, fun i hi => ?_⟩
    · exact MemPlace.mem_row.2 ⟨0, by omega, by simp⟩
    · rw [hc2 i (by omega)]
      simp [List.getD, hi]

theorem array8 {cs : Array Value} (h : cs.size = 8) : ∃ c0 c1 c2 c3 c4 c5 c6 c7, cs = #[c0, c1, c2, c3, c4, c5, c6, c7] := by
  obtain ⟨l⟩ := cs
  match l, h with
  | [c0, c1, c2, c3, c4, c5, c6, c7], _ => exact ⟨_, _, _, _, _, _, _, _, rfl⟩

theorem open_guard {H : Type} {enc : TypeId × Value → H} {W : World} {base : Nat} {v : Value} {d : DataW H} {p : List MemPlace}
    (hval : Value.okWide Tryz.prog W .any base 30 v) (h : DataW.Trod enc Tryz.prog W 0 (fun _ => true) true 30 v d p) (hlt : ∀ x ∈ p, x.block < W.heap.size)
    (hw : ∀ n ∈ d.weights Tryz.prog 30, n ≤ reachBytes) :
    ∃ (d0 d1 l0 l1 p0 p1 la : Int) (A : Option Addr) (n c : Nat) (xs : List Int), v = .agg #[.int .i64 d0, .int .i64 d1, .int .i64 l0, .int .i64 l1, .int .i64 p0, .int .i64 p1, .slice A n c, .int .i64 la] ∧ Ints W A n xs ∧ n ≤ c ∧ n * 8 ≤ 140737488351232 := by
  obtain ⟨cs, rfl, hsz⟩ := okWide_struct Tryz.underlying30 hval
  obtain ⟨fuel, hf⟩ := h
  obtain ⟨xs, n, _, hx, _, hlen, hfs⟩ := DataW.trod_struct Tryz.underlying30 hf
  obtain ⟨c0, c1, c2, c3, c4, c5, c6, c7, rfl⟩ := array8 (hsz.trans (by kernel_rfl))
  match xs, hlen with
  | [y0, y1, y2, y3, y4], _ =>
    simp only [Prod.mk.injEq] at hx
    obtain ⟨rfl, rfl⟩ := hx
    have k1 : Tryz.prog.cellsOf 3 = 1 := by kernel_rfl
    have kd : Tryz.prog.cellsOf 23 = 2 := by kernel_rfl
    have kl : Tryz.prog.cellsOf 25 = 2 := by kernel_rfl
    have kp : Tryz.prog.cellsOf 27 = 2 := by kernel_rfl
    have ks : Tryz.prog.cellsOf 28 = 1 := by kernel_rfl
    have t0 : DataW.trod enc Tryz.prog W 0 (fun _ => true) true n 23 [c0, c1] = some y0 := by simpa [Value.cells, kd] using hfs 0 _ rfl
    have t1 : DataW.trod enc Tryz.prog W 0 (fun _ => true) true n 25 [c2, c3] = some y1 := by simpa [Value.cells, kl] using hfs 1 _ rfl
    have t2 : DataW.trod enc Tryz.prog W 0 (fun _ => true) true n 27 [c4, c5] = some y2 := by simpa [Value.cells, kp] using hfs 2 _ rfl
    have t3 : DataW.trod enc Tryz.prog W 0 (fun _ => true) true n 28 [c6] = some y3 := by simpa [Value.cells, ks] using hfs 3 _ rfl
    have t4 : DataW.trod enc Tryz.prog W 0 (fun _ => true) true n 3 [c7] = some y4 := by simpa [Value.cells, k1] using hfs 4 _ rfl
    have q0 := leaves_of (enc := enc) 2 23 [.int .i64, .int .i64] n [c0, c1] _ (by kernel_rfl) t0
    have q1 := leaves_of (enc := enc) 2 25 [.int .i64, .int .i64] n [c2, c3] _ (by kernel_rfl) t1
    have q2 := leaves_of (enc := enc) 2 27 [.int .i64, .int .i64] n [c4, c5] _ (by kernel_rfl) t2
    have q4 := leaves_of (enc := enc) 1 3 [.int .i64] n [c7] _ (by kernel_rfl) t4
    obtain ⟨d0, e0, _⟩ : leafIs (.int .i64) c0 := q0.2 0 _ rfl
    obtain ⟨d1, e1, _⟩ : leafIs (.int .i64) c1 := q0.2 1 _ rfl
    obtain ⟨l0, e2, _⟩ : leafIs (.int .i64) c2 := q1.2 0 _ rfl
    obtain ⟨l1, e3, _⟩ : leafIs (.int .i64) c3 := q1.2 1 _ rfl
    obtain ⟨p0, e4, _⟩ : leafIs (.int .i64) c4 := q2.2 0 _ rfl
    obtain ⟨p1, e5, _⟩ : leafIs (.int .i64) c5 := q2.2 1 _ rfl
    obtain ⟨la, e7, _⟩ : leafIs (.int .i64) c7 := q4.2 0 _ rfl
    obtain ⟨A, m, c, zs, e6, h1, h2, h3⟩ := ints_of_trod (t := 28) Tryz.underlying28 Tryz.underlying3 (by kernel_rfl) (by kernel_rfl) t3 (fun x hx => hlt x (by simp [hx])) (fun n hn => hw n (by simp [DataW.weights, DataW.weightsEach, Tryz.underlying30, hn]))
    exact ⟨d0, d1, l0, l1, p0, p1, la, A, m, c, zs, by rw [e0, e1, e2, e3, e4, e5, e6, e7], h1, h2, h3⟩

/-! ### Looks -/
abbrev lookLs : List TypeDesc := [.int .i64, .int .i64, .int .i64, .int .i64, .int .i64, .bool, .bool, .bool, .bool, .int .i64, .int .i64, .int .i64, .int .i64, .bool, .int .i64, .bool, .int .i64, .int .i64, .bool, .int .i64, .bool, .bool, .bool]
theorem look_of {cs : List Value} (h : LeavesIs lookLs cs) : ∃ k : Lk, cs = (lkC k).toList := by
  obtain ⟨hl, hk⟩ := h
  match cs, hl, hk with
  | [c0, c1, c2, c3, c4, c5, c6, c7, c8, c9, c10, c11, c12, c13, c14, c15, c16, c17, c18, c19, c20, c21, c22], _, hk =>
    obtain ⟨x0, e0, _⟩ : leafIs (.int .i64) c0 := hk 0 _ rfl
    obtain ⟨x1, e1, _⟩ : leafIs (.int .i64) c1 := hk 1 _ rfl
    obtain ⟨x2, e2, _⟩ : leafIs (.int .i64) c2 := hk 2 _ rfl
    obtain ⟨x3, e3, _⟩ : leafIs (.int .i64) c3 := hk 3 _ rfl
    obtain ⟨x4, e4, _⟩ : leafIs (.int .i64) c4 := hk 4 _ rfl
    obtain ⟨x5, e5⟩ : leafIs .bool c5 := hk 5 _ rfl
    obtain ⟨x6, e6⟩ : leafIs .bool c6 := hk 6 _ rfl
    obtain ⟨x7, e7⟩ : leafIs .bool c7 := hk 7 _ rfl
    obtain ⟨x8, e8⟩ : leafIs .bool c8 := hk 8 _ rfl
    obtain ⟨x9, e9, _⟩ : leafIs (.int .i64) c9 := hk 9 _ rfl
    obtain ⟨x10, e10, _⟩ : leafIs (.int .i64) c10 := hk 10 _ rfl
    obtain ⟨x11, e11, _⟩ : leafIs (.int .i64) c11 := hk 11 _ rfl
    obtain ⟨x12, e12, _⟩ : leafIs (.int .i64) c12 := hk 12 _ rfl
    obtain ⟨x13, e13⟩ : leafIs .bool c13 := hk 13 _ rfl
    obtain ⟨x14, e14, _⟩ : leafIs (.int .i64) c14 := hk 14 _ rfl
    obtain ⟨x15, e15⟩ : leafIs .bool c15 := hk 15 _ rfl
    obtain ⟨x16, e16, _⟩ : leafIs (.int .i64) c16 := hk 16 _ rfl
    obtain ⟨x17, e17, _⟩ : leafIs (.int .i64) c17 := hk 17 _ rfl
    obtain ⟨x18, e18⟩ : leafIs .bool c18 := hk 18 _ rfl
    obtain ⟨x19, e19, _⟩ : leafIs (.int .i64) c19 := hk 19 _ rfl
    obtain ⟨x20, e20⟩ : leafIs .bool c20 := hk 20 _ rfl
    obtain ⟨x21, e21⟩ : leafIs .bool c21 := hk 21 _ rfl
    obtain ⟨x22, e22⟩ : leafIs .bool c22 := hk 22 _ rfl
    exact ⟨⟨x0, x1, x2, x3, x4, x5, x6, x7, x8, x9, x10, x11, x12, x13, x14, x15, x16, x17, x18, x19, x20, x21, x22⟩, by rw [e0, e1, e2, e3, e4, e5, e6, e7, e8, e9, e10, e11, e12, e13, e14, e15, e16, e17, e18, e19, e20, e21, e22]; rfl⟩
theorem rows_look {w : World} {A : Option Addr} {n : Nat} {rs : List (List Value)} (h : Rows lookLs w A n rs) {i : Nat} (hi : i < n) :
    ∃ b off, ∃ k : Lk, A = some ⟨b, off, Option.none⟩ ∧ b < w.heap.size ∧ w.rangeAt b (off + i * 23) (lkC k).toList := by
  obtain ⟨b, off, e, hb, hc⟩ := h.2.2 (by omega)
  obtain ⟨k, hk⟩ := look_of (h.2.1 i hi)
  refine ⟨b, off, k, e, hb, fun j v hv => ?_⟩
  have hj : j < (lkC k).toList.length := (List.getElem?_eq_some_iff.1 hv).1
  have := hc i hi j (by simpa [lkC] using hj)
  rw [hk] at this
  rw [Nat.add_assoc]
  simp only [List.length_cons, List.length_nil] at this
  rw [show off + (i * 23 + j) = off + (i * (0 + 1 + 1 + 1 + 1 + 1 + 1 + 1 + 1 + 1 + 1 + 1 + 1 + 1 + 1 + 1 + 1 + 1 + 1 + 1 + 1 + 1 + 1 + 1) + j) from rfl, this, List.getD_eq_getElem?_getD, hv]
  rfl

/-! ### The latch -/
theorem in_all {n : Int} (h0 : 0 ≤ n) (h1 : n ≤ 4095) : bv n &&& bv 4095 = bv n := by
  obtain ⟨N, rfl⟩ := Int.eq_ofNat_of_zero_le h0
  apply BitVec.eq_of_toNat_eq
  rw [BitVec.toNat_and]
  have e : (bv (N : Int)).toNat = N := by
    rw [show bv (N : Int) = BitVec.ofNat 64 N from BitVec.ofInt_natCast ..]
    exact Nat.mod_eq_of_lt (by omega)
  rw [e, show (bv 4095).toNat = 2 ^ 12 - 1 by decide, Nat.and_two_pow_sub_one_eq_mod, Nat.mod_eq_of_lt (by omega)]
theorem ws_id {n : Int} (h0 : 0 ≤ n) (h1 : n ≤ 4095) : bits .and .i64 n 4095 = n := by
  rw [and_bv, in_all h0 h1]
  obtain ⟨N, rfl⟩ := Int.eq_ofNat_of_zero_le h0
  rw [show bv (N : Int) = BitVec.ofNat 64 N from BitVec.ofInt_natCast .., BitVec.toInt_eq_toNat_cond, BitVec.toNat_ofNat, Nat.mod_eq_of_lt (by omega), if_pos (by omega)]
theorem la_is (la HE : Int) (k : Lk) (h0 : 0 ≤ HE) (h1 : HE ≤ 4095) :
    laV la HE k = bits .or .i64 (if k.ak = true then bits .and .i64 (bits .and .i64 la 4095) HE else bits .and .i64 la 4095) (bits .and .i64 HE (arV k.m)) := by
  have e := in_all h0 h1
  unfold laV
  split
  · rw [ra_bv, or_bv, ac_bv, and_bv, and_bv, and_bv, bv_int, bv_int, bv_int, bv_int]
    congr 1
    generalize bv la = x at *
    generalize bv HE = y at *
    generalize bv 4095 = m at *
    generalize bv (arV k.m) = z at *
    apply BitVec.eq_of_getLsbD_eq
    intro i hi
    have ei := congrArg (fun t => t.getLsbD i) e
    simp only [BitVec.getLsbD_and, BitVec.getLsbD_or] at ei ⊢
    revert ei
    cases x.getLsbD i <;> cases y.getLsbD i <;> cases m.getLsbD i <;> cases z.getLsbD i <;> simp
  · rw [ra_bv, or_bv, and_bv, and_bv, bv_int, bv_int]
    congr 1
    generalize bv la = x at *
    generalize bv HE = y at *
    generalize bv 4095 = m at *
    generalize bv (arV k.m) = z at *
    apply BitVec.eq_of_getLsbD_eq
    intro i hi
    have ei := congrArg (fun t => t.getLsbD i) e
    simp only [BitVec.getLsbD_and, BitVec.getLsbD_or] at ei ⊢
    revert ei
    cases x.getLsbD i <;> cases y.getLsbD i <;> cases m.getLsbD i <;> cases z.getLsbD i <;> simp
theorem la_bd (la HE : Int) (k : Lk) : 0 ≤ laV la HE k ∧ laV la HE k ≤ 4095 := by unfold laV; exact ra_bd _ _
def inAll (a : Int) : Prop := ∃ x : BitVec 64, a = x.toInt ∧ x &&& bv 4095 = x
theorem inAll.bd {a : Int} (h : inAll a) : 0 ≤ a ∧ a ≤ 4095 := by
  obtain ⟨x, rfl, e⟩ := h
  rw [← e]
  exact all_le x
theorem or_all {a b : Int} (h1 : inAll a) (h2 : inAll b) : inAll (bits .or .i64 a b) := by
  obtain ⟨a, rfl, ha⟩ := h1
  obtain ⟨b, rfl, hb⟩ := h2
  rw [or_bv, bv_int, bv_int]
  refine ⟨a ||| b, rfl, ?_⟩
  apply BitVec.eq_of_getLsbD_eq
  intro i hi
  have fa := congrArg (fun t => t.getLsbD i) ha
  have fb := congrArg (fun t => t.getLsbD i) hb
  simp only [BitVec.getLsbD_and, BitVec.getLsbD_or] at fa fb ⊢
  revert fa fb
  cases a.getLsbD i <;> cases b.getLsbD i <;> cases (bv 4095).getLsbD i <;> simp
theorem sm_from : ∀ (l : List (Int × Bool)) (a : Int), inAll a → (∀ x ∈ l, inAll x.1) → inAll (l.foldl (fun a x => if x.2 = true then bits .or .i64 a x.1 else a) a)
  | [], a, ha, _ => ha
  | x :: l, a, ha, h => by
    rw [List.foldl_cons]
    refine sm_from l _ ?_ fun y hy => h y (List.mem_cons_of_mem _ hy)
    split
    · exact or_all ha (h x (List.mem_cons_self ..))
    · exact ha
theorem sm_all (l : List (Int × Bool)) (h : ∀ x ∈ l, inAll x.1) : inAll (smV l) := sm_from l 0 ⟨0#64, rfl, by simp⟩ h
theorem he_bd (k : Lk) (ys : List Int) (D0 D1 L0 L1 P0 P1 : Int) : 0 ≤ heV k ys D0 D1 L0 L1 P0 P1 ∧ heV k ys D0 D1 L0 L1 P0 P1 ≤ 4095 := by
  unfold heV
  refine inAll.bd (sm_all _ ?_)
  simp only [List.mem_cons, List.not_mem_nil, or_false, forall_eq_or_imp, forall_eq]
  exact ⟨⟨bv 1, by decide, by decide⟩, ⟨bv 2, by decide, by decide⟩, ⟨bv 4, by decide, by decide⟩, ⟨bv 8, by decide, by decide⟩, ⟨bv 16, by decide, by decide⟩, ⟨bv 32, by decide, by decide⟩, ⟨bv 64, by decide, by decide⟩, ⟨bv 128, by decide, by decide⟩, ⟨bv 256, by decide, by decide⟩, ⟨bv 512, by decide, by decide⟩, ⟨bv 1024, by decide, by decide⟩, ⟨bv 2048, by decide, by decide⟩⟩
end Go.Proofs.YtmocppghmdeahaaGreat
