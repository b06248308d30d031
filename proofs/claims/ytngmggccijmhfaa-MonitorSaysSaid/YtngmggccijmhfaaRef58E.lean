/- Contracts of the document's monitor: New, Step. -/
import Derived.Test.YtngmggccijmhfaaRef58D
import Derived.Test.YtngmggccijmhfaaAppS
import Derived.Test.YtngmggccijmhfaaTri
namespace Go.Proofs.Ytngmggccijmhfaa
open Go.RowKit
set_option linter.unusedVariables false
set_option linter.unusedSimpArgs false
set_option maxRecDepth 100000
attribute [local go_sem] cell_set_ite Near.cell Near.frozen

def frL (ts : Nat → Tm) (k : Nat) : List Int := (List.range k).map (fun i => frV (ts i).op)
theorem frL_next (ts : Nat → Tm) (k : Nat) : frL ts (k + 1) = frL ts k ++ [frV (ts k).op] := by simp [frL, List.range_succ]
theorem frL_len (ts : Nat → Tm) (k : Nat) : (frL ts k).length = k := by simp [frL]
set_option maxHeartbeats 4000000 in
theorem r8_new (A : Option Addr) (n c : Nat) (ts : Nat → Tm) (w : World) (h : Terms w A n ts) (hr : rtB ts n = true) : Calls Try.prog 19 #[.slice A n c] w fun e w' => ∃ B d, e = .returned (.tuple #[.slice B n d, .bool true]) ∧ w'.ownsRow w.heap.size 3 1 (.slice B n d) n ((frL ts n).map (Value.int .i64)) ∧ Below w.heap.size w w' := by
  have hn : n ≤ 40 := by
    unfold rtB at hr
    have : n ≤ 40 ∧ okB ts n = true ∧ rdN ts n = 1 := by simpa using hr
    exact this.1
  have A0 : Below w.heap.size w w := Below.refl _ _
  have HR := Lib.hid (r6_right A n c ts w h)
  rw [hr] at HR
  have HI := Lib.hid h
  clear h hr
  go_enter Try.func19, Try.ntmps19
  go_wp2_with (fail)
  refine HR.out.mono ?_
  rintro e w1 ⟨rfl, hb⟩
  have A1 := below_call A0 hb
  have HI1 := Lib.hid (HI.out.below hb)
  clear hb A0 HR HI
  go_wp2
  go_loopg [4, 11] n (fun gk x i wr => ∃ k : Nat, k ≤ n ∧ gk = n - k ∧ i = .int .i64 k ∧ Grown w1 (frL ts k) x wr)
  case atStart => exact ⟨0, by omega, rfl, rfl, Grown.nil w1⟩
  case round =>
    obtain ⟨k, hk, rfl, rfl, hd⟩ := hrel
    by_cases hlt : k < n
    · obtain ⟨b, off, rfl, hbs, hcell⟩ := HI1.out.2 (by omega)
      have c0 := (hd.2.2.cell (p := ⟨b, off + k * 3, none⟩) hbs).trans (hcell k hlt).1
      have HV := Lib.hid (show frV (ts k).op = if (ts k).op = 6 ∨ (ts k).op = 7 then -1 else 0 from rfl)
      have HNX := Lib.hid (frL_next ts k)
      have hll : (frL ts k).length ≤ 17592186044414 := by rw [frL_len]; omega
      have hsz := hd.2.2.size
      have HG := Lib.hid hd
      have HO := Lib.hid hd.2.1
      clear hcell hd
      generalize (ts k).op = op at *
      generalize frL ts k = L at *
      by_cases h67 : op = 6 ∨ op = 7
      · have hv := Lib.hid (HV.out.trans (if_pos h67))
        clear HV
        rcases h67 with rfl | rfl
        all_goals
          go_wp2_with (at_builtin; refine app_int rfl _ _ rfl (-1) rfl rfl HO.out hsz hll ?_)
          intro v' w4 h1 h2
          have G3 := Lib.hid (HG.out.next h1 h2)
          clear h1 h2 HG HO
          go_wp2
          go_roundg (n - (k + 1))
          case measure => omega
          case rel => exact ⟨k + 1, by omega, by omega, by go_num, by rw [HNX.out, hv.out]; exact G3.out⟩
      · have hv := Lib.hid (HV.out.trans (if_neg h67))
        have t6 : (op == 6) = false := by simp; omega
        have t7 : (op == 7) = false := by simp; omega
        clear HV h67
        go_wp2_with (at_builtin; refine app_int rfl _ _ rfl 0 rfl rfl HO.out hsz hll ?_)
        intro v' w4 h1 h2
        have G3 := Lib.hid (HG.out.next h1 h2)
        clear h1 h2 HG HO
        go_wp2
        go_roundg (n - (k + 1))
        case measure => omega
        case rel => exact ⟨k + 1, by omega, by omega, by go_num, by rw [HNX.out, hv.out]; exact G3.out⟩
    · obtain rfl : k = n := by omega
      have ha := hd.2.1
      have A2 := below_call A1 hd.2.2
      rw [frL_len] at ha
      obtain ⟨P, d, hP, hle⟩ := own_form ha
      subst hP
      have HX := Lib.hid (own_base ha A1.size)
      clear ha hd
      go_wp2
      exact bodyPost_ret (v := .tuple #[.slice P k d, .bool true]) (by simp [results, Try.results19, go_sem]) rfl ⟨P, d, rfl, HX.out, A2⟩

/-- A stack of truths, and a list of numbers, that grow side by side. -/
structure Two (w wr : World) (va vb : Value) (L : List Int) (m : Nat) (S : List Bool) : Prop where
  a : wr.ownsRow w.heap.size 3 1 va L.length (L.map (Value.int .i64))
  b : wr.ownsRow w.heap.size 4 1 vb m (S.map Value.bool)
  ab : Ap va vb
  bel : Below w.heap.size w wr
namespace Two
variable {w wr w1 : World} {va vb : Value} {L : List Int} {m : Nat} {S : List Bool}
theorem nil (w : World) : Two w w (.slice none 0 0) (.slice none 0 0) [] 0 [] :=
  ⟨World.ownsRow_nil _ _ _ _, World.ownsRow_nil _ _ _ _, (fun g h => nomatch h), Below.refl _ _⟩
theorem below (h : Two w wr va vb L m S) (hb : Below wr.heap.size wr w1) : Two w w1 va vb L m S :=
  ⟨own_below h.a hb, own_below h.b hb, h.ab, Below.trans h.bel (hb.mono h.bel.size)⟩
theorem a_next {va' : Value} {x : Int} {o : Obj} (h : Two w wr va vb L m S) (ho : w1.ownsRow w.heap.size 3 1 va' (L.length + 1) (L.map (Value.int .i64) ++ [.int .i64 x])) (hg : (wr.alloc o).grownBy w1 va.ownBlock) (ha : va'.ownBlock = va.ownBlock ∨ va'.ownBlock = some (wr.heap.size + 1)) :
    Two w w1 va' vb (L ++ [x]) m S :=
  ⟨by simpa using ho, (h.b.alloc o).kept hg h.ab.symm.ne, (h.ab.symm.moved ha (fun g hg => by have := (h.b.lt g hg).2; omega)).symm, Tri.bel_next h.bel h.a hg⟩
theorem b_next {vb' : Value} {x : Bool} {o : Obj} (h : Two w wr va vb L m S) (ho : w1.ownsRow w.heap.size 4 1 vb' (m + 1) (S.map Value.bool ++ [.bool x])) (hg : (wr.alloc o).grownBy w1 vb.ownBlock) (ha : vb'.ownBlock = vb.ownBlock ∨ vb'.ownBlock = some (wr.heap.size + 1)) :
    Two w w1 va vb' L (m + 1) (S ++ [x]) :=
  ⟨(h.a.alloc o).kept hg h.ab.ne, by simpa using ho, h.ab.moved ha (fun g hg => by have := (h.a.lt g hg).2; omega), Tri.bel_next h.bel h.b hg⟩
theorem cut {B : Option Addr} {d j : Nat} (h : Two w wr va (.slice B m d) L m S) (hj : j ≤ m) : Two w wr va (.slice B j d) L j (S.take j) :=
  ⟨h.a, by rw [List.map_take]; exact own_first h.b hj, (fun g h1 h2 => h.ab g h1 (by cases B <;> exact h2)), h.bel⟩
end Two
/-- The stack behind k parts. -/
def skL (ts : Nat → Tm) (ks : List Int) (o : Ou) (k : Nat) : List Bool := (List.range (rdN ts k)).map (skF ts ks o k)
def nxL (ts : Nat → Tm) (ks : List Int) (o : Ou) (k : Nat) : List Int := (List.range k).map (nxV ts ks o)
theorem nxL_next (ts : Nat → Tm) (ks : List Int) (o : Ou) (k : Nat) : nxL ts ks o (k + 1) = nxL ts ks o k ++ [nxV ts ks o k] := by simp [nxL, List.range_succ]
theorem nxL_len (ts : Nat → Tm) (ks : List Int) (o : Ou) (k : Nat) : (nxL ts ks o k).length = k := by simp [nxL]
theorem up_list (f : Nat → Bool) (v : Bool) {q m : Nat} (h : q ≤ m) : ((List.range m).map f).take q ++ [v] = (List.range (q + 1)).map (upF f q v) := by
  rw [List.range_succ, List.map_append, ← List.map_take, List.take_range, Nat.min_eq_left h]
  congr 1
  · refine List.map_congr_left fun i hi => ?_
    have := List.mem_range.1 hi
    unfold upF
    rw [if_neg (by omega)]
  · simp [upF]
/-- A part puts one truth on the stack in place of what it needs. -/
theorem sk_next (ts : Nat → Tm) (ks : List Int) (o : Ou) (k : Nat) (hm : myB (ts k) = true) (hd : ndN (ts k).op ≤ rdN ts k) {q : Nat} (hq : rdN ts k = q + ndN (ts k).op) {a b : Bool}
    (ha : 1 ≤ ndN (ts k).op → a = skF ts ks o k q) (hb : 2 ≤ ndN (ts k).op → b = skF ts ks o k (q + 1)) :
    skL ts ks o (k + 1) = (skL ts ks o k).take q ++ [paB (ts k) o a b (ks.getD k 0)] ∧ nxV ts ks o k = paV (ts k) a b (ks.getD k 0) := by
  have hN : rdN ts (k + 1) = rdN ts k + 1 - ndN (ts k).op := rfl
  have hS : skF ts ks o (k + 1) = if ndN (ts k).op = 0 then upF (skF ts ks o k) (rdN ts k) (alB (ts k) o) else if ndN (ts k).op = 1 then upF (skF ts ks o k) (rdN ts k - 1) (unB (ts k) (skF ts ks o k (rdN ts k - 1)) (ks.getD k 0)) else upF (skF ts ks o k) (rdN ts k - 2) (biB (ts k).op (skF ts ks o k (rdN ts k - 2)) (skF ts ks o k (rdN ts k - 1)) (ks.getD k 0)) := rfl
  have hV : nxV ts ks o k = if ndN (ts k).op = 0 then 0 else if ndN (ts k).op = 1 then unV (ts k) (skF ts ks o k (rdN ts k - 1)) (ks.getD k 0) else biV (ts k).op (skF ts ks o k (rdN ts k - 2)) (skF ts ks o k (rdN ts k - 1)) (ks.getD k 0) := rfl
  have hnl := nd_le (ts k).op
  have hL : ∀ v, skF ts ks o (k + 1) = upF (skF ts ks o k) q v → skL ts ks o (k + 1) = (skL ts ks o k).take q ++ [v] := fun v hv => by
    unfold skL
    rw [up_list _ _ (by omega), hN, hv, show rdN ts k + 1 - ndN (ts k).op = q + 1 by omega]
  unfold paB paV
  rcases (by omega : ndN (ts k).op = 0 ∨ ndN (ts k).op = 1 ∨ ndN (ts k).op = 2) with e | e | e
  · rw [if_pos e] at hS hV ⊢
    rw [if_pos e]
    exact ⟨hL _ (by rw [hS, show rdN ts k = q by omega]), hV⟩
  · rw [if_neg (by omega), if_pos e] at hS hV ⊢
    rw [if_neg (by omega), if_pos e]
    rw [show rdN ts k - 1 = q by omega, ← ha (by omega)] at hS hV
    exact ⟨hL _ hS, hV⟩
  · rw [if_neg (by omega), if_neg (by omega)] at hS hV ⊢
    rw [if_neg (by omega), if_neg (by omega)]
    rw [show rdN ts k - 2 = q by omega, show rdN ts k - 1 = q + 1 by omega, ← ha (by omega), ← hb (by omega)] at hS hV
    exact ⟨hL _ hS, hV⟩
end Go.Proofs.Ytngmggccijmhfaa
