/- Contracts of package screen: a volume's digits with a point. -/
import Derived.Test.YtjdahghnfgblgaaDoorApp
import Derived.Test.YtjdahghnfgblgaaDoorWorld
import Derived.Test.YtjdahghnfgblgaaDoorBx
import Derived.Deep.LoopGhost
import Derived.Deep.DeepCutAuto
import Derived.Lib.OthersKept
import Derived.Laws.Cover4
import Derived.WalkSpells
import Derived.WalkLawsBesides
namespace Go.Proofs.YtjdahghnfgblgaaDoor
open Go.RowKit
set_option linter.unusedVariables false
set_option linter.unusedSimpArgs false
set_option maxRecDepth 100000
attribute [local go_sem] cell_set_ite Near.cell Near.frozen
attribute [local go_sem ↓] Go.wp_at_zero Go.wp_at_succ

theorem rune_info : (Tryd.prog.info? 21).map (fun i => (i.zero, i.size, i.bytes)) = some (some (.int .i32 0), 1, 4) := by kernel_rfl
theorem app_rune {ops : Array Oper} {rest : List Oper} {o : Oper} {a : Act} {Q : Exit → Act → World → Prop} {w : World} (hgd : o.guard = none) (s x : Operand)
    (ho : o.op = .call { callee := .builtin .append, args := #[s, x], argTypes := #[53, 53] }) {base n : Nat} {cs : List Value} {v : Value} (y : Int)
    (hs : a.eval s = v) (hx : a.eval x = .slice (some ⟨w.heap.size, 0, none⟩) 1 1) (hown : w.ownsRow base 21 1 v n cs) (hb : base ≤ w.heap.size) (hn : n ≤ 17592186044414)
    (hK : ∀ v' w', w'.ownsRow base 21 1 v' (n + 1) (cs ++ [.int .i32 y]) → (w.alloc (.cells #[.int .i32 y] 21)).grownBy w' v.ownBlock → wpList Tryd.prog ops Q rest (a.put o.dst v') w') :
    wpList Tryd.prog ops Q (o :: rest) a (w.alloc (.cells #[.int .i32 y] 21)) := by
  obtain ⟨i0, hi0, hz0, hz1, hz2⟩ := info_parts rune_info
  refine wpList_append_own _ hgd s x 53 ho base 21 i0 (.int .i32 0) 1 4 Tryd.underlying53 hi0 hz0 hz1 hz2 rfl (by decide) v n cs hs (hown.alloc _) ⟨w.heap.size, 0, none⟩ 1 1 [.int .i32 y] hx rfl ?_ ?_ ?_ ?_ ?_ (fun v' w' h1 h2 _ => hK v' w' h1 h2)
  · intro j u hj
    match j, hj with
    | 0, hj => simp at hj; subst hj; simp [Addr.add]
  · intro u hu; simp at hu; subst hu; rfl
  · unfold maxLen; omega
  · omega
  · simp; omega
theorem own_iter {w : World} {base e n : Nat} {v : Value} {cs : List Value} {K : Nat} {s : ByteArray} {p : Nat} (h : w.ownsRow base e 1 v n cs) (hK : K < base) : (w.iterAt K s p).ownsRow base e 1 v n cs := by
  refine ⟨h.1, ?_⟩
  rcases h.2 with h | ⟨g, cap, cur, hv, hb, hg, r⟩
  · exact .inl h
  · exact .inr ⟨g, cap, cur, hv, hb, by rw [Lib.iterAt_other _ _ _ _ _ (by omega)]; exact hg, r⟩
/-- A list of runes as a text. -/
def strOf (zs : List Int) : ByteArray := ⟨(zs.map fun z => UInt8.ofNat z.toNat).toArray⟩
theorem enc_one {z : Int} (h0 : 0 ≤ z) (h1 : z < 128) : Utf8.encode z = ⟨#[UInt8.ofNat z.toNat]⟩ := by
  obtain ⟨n, rfl⟩ := Int.eq_ofNat_of_zero_le h0
  have : ∀ n : Fin 128, Utf8.encode (n.val : Int) = ⟨#[UInt8.ofNat n.val]⟩ := by decide +kernel
  exact this ⟨n, by omega⟩
theorem runes_from (zs : List Int) : ∀ (r : ByteArray), (∀ z ∈ zs, 0 ≤ z ∧ z < 128) → zs.foldl (fun r n => r ++ Utf8.encode n) r = r ++ strOf zs := by
  induction zs with
  | nil => intro r _; apply ByteArray.ext; apply Array.toList_inj.1; rw [ByteArray.data_append]; simp [strOf]
  | cons z zs ih =>
    intro r h
    have hz := h z (by simp)
    rw [List.foldl_cons, ih _ (fun y hy => h y (by simp [hy])), enc_one hz.1 hz.2]
    apply ByteArray.ext
    apply Array.toList_inj.1
    simp [ByteArray.data_append, strOf]
theorem runes_is {zs : List Int} (h : ∀ z ∈ zs, 0 ≤ z ∧ z < 128) : runesBytes zs = strOf zs := by
  unfold runesBytes
  rw [runes_from zs _ h]
  apply ByteArray.ext
  apply Array.toList_inj.1
  rw [ByteArray.data_append, Array.toList_append]
  rfl
theorem conv_runes {w : World} {base n c : Nat} {A : Option Addr} {zs : List Int} (h : w.ownsRow base 21 1 (.slice A n c) n (zs.map (Value.int .i32))) (hn : zs.length = n) (hz : ∀ z ∈ zs, 0 ≤ z ∧ z < 128) :
    (convert 53 9 (.slice A n c)).run Tryd.prog w = .ok (.string (strOf zs)) w := by
  rw [← runes_is hz]
  rcases h.2 with ⟨hv, h0⟩ | ⟨g, cap, cur, hv, _, hg, hnc, _, hsz, htk⟩
  · obtain rfl : A = none := by injection hv
    have : zs = [] := List.length_eq_zero_iff.1 (by omega)
    subst this
    exact run_convert_runes_nil w _ _ 21 n c Tryd.underlying53 Tryd.underlying21 Tryd.underlying9
  · obtain rfl : A = some ⟨g, 0, none⟩ := by injection hv
    have h2 := run_convert_runes (P := Tryd.prog) w 53 9 21 ⟨g, 0, none⟩ n c zs (by omega) Tryd.underlying53 Tryd.underlying21 Tryd.underlying9 (fun j hj => by
      have e : ((⟨g, 0, none⟩ : Addr).add j) = ⟨g, j, none⟩ := by unfold Addr.add; split <;> simp_all
      rw [e]
      have hk := h.cellAt j (by omega)
      rw [hk]
      simp [List.getD, List.getElem?_eq_getElem hj])
    rwa [List.take_of_length_le (by omega)] at h2

theorem sc_needed (d : Int) (nb : Bool) (w : World) : Calls Tryd.prog 28 #[.int .i32 d, .bool nb] w fun e w' => e = .returned (.bool (nb || (d != 48))) ∧ w = w' := by
  cases nb
  all_goals
    go_enter Tryd.func28, Tryd.ntmps28
    go_wp2
    all_goals go_ret
    all_goals exact ⟨rfl, rfl⟩

def ptStep (n k : Nat) (d : Int) (acc : List Int) : List Int := if k + 3 = n then acc ++ [46] ++ [d] else if acc ≠ [] ∨ n ≤ k + 4 ∨ d ≠ 48 then acc ++ [d] else acc
def ptTo (s : List Int) : Nat → List Int
  | 0 => []
  | k + 1 => ptStep s.length k (s.getD k 0) (ptTo s k)
theorem pt_bd {s : List Int} (h : ∀ z ∈ s, 0 ≤ z ∧ z < 128) : ∀ k, k ≤ s.length → (∀ z ∈ ptTo s k, 0 ≤ z ∧ z < 128) ∧ (ptTo s k).length ≤ 2 * k
  | 0, _ => ⟨by simp [ptTo], by simp [ptTo]⟩
  | k + 1, hk => by
    obtain ⟨h1, h2⟩ := pt_bd h k (by omega)
    have hd : 0 ≤ s.getD k 0 ∧ s.getD k 0 < 128 := by
      rw [List.getD_eq_getElem?_getD, List.getElem?_eq_getElem (by omega)]
      exact h _ (List.getElem_mem _)
    unfold ptTo ptStep
    split
    · refine ⟨fun z hz => ?_, by simp; omega⟩
      simp only [List.mem_append, List.mem_singleton] at hz
      rcases hz with (hz | rfl) | rfl
      · exact h1 z hz
      · omega
      · exact hd
    · split
      · refine ⟨fun z hz => ?_, by simp; omega⟩
        simp only [List.mem_append, List.mem_singleton] at hz
        rcases hz with hz | rfl
        · exact h1 z hz
        · exact hd
      · exact ⟨h1, by omega⟩
/-- A text's bytes as numbers. -/
def numsOf (s : ByteArray) : List Int := s.data.toList.map fun b => (b.toNat : Int)
theorem nums_at {s : ByteArray} {k : Nat} (h : k < s.size) : (numsOf s).getD k 0 = ((s[k]'h).toNat : Int) := by
  unfold numsOf
  have hl : k < s.data.toList.length := by rw [Array.length_toList]; exact h
  rw [List.getD_eq_getElem?_getD, List.getElem?_map, List.getElem?_eq_getElem hl]
  simp
  rfl
theorem nums_len (s : ByteArray) : (numsOf s).length = s.size := by unfold numsOf; rw [List.length_map, Array.length_toList]; rfl

theorem rune_put {W w1 w2 : World} {K n : Nat} {v : Value} {cs : List Value} {s : ByteArray} {p : Nat} {y : Int} (hoa : w1.ownsRow (K + 1) 21 1 v n cs) (hit : w1.heap[K]? = some (.stringIter s p)) (hb : Below K W w1)
    (hg : (w1.alloc (.cells #[.int .i32 y] 21)).grownBy w2 v.ownBlock) : w2.heap[K]? = some (.stringIter s p) ∧ Below K W w2 ∧ K < w2.heap.size := by
  have hK : K < w1.heap.size := (Array.getElem?_eq_some_iff.1 hit).1
  have hge : ∀ g, v.ownBlock = some g → K + 1 ≤ g := fun g h => (hoa.lt g h).1
  have h1 : (w1.alloc (.cells #[.int .i32 y] 21)).heap[K]? = some (.stringIter s p) := (((Below.refl w1.heap.size w1).alloc (Nat.le_refl _) (.cells #[.int .i32 y] 21)).block K hK).trans hit
  have hK2 : K < (w1.alloc (.cells #[.int .i32 y] 21)).heap.size := by simp; omega
  refine ⟨(hg.block K hK2 (fun e => by have := hge K e.symm; omega)).trans h1, (hb.alloc (Nat.le_of_lt hK) _).grown hg (Nat.le_of_lt hK2) (fun g h => by have := hge g h; omega), Nat.lt_of_lt_of_le hK2 hg.size⟩

set_option maxHeartbeats 2000000 in
theorem sc_pointed (s : ByteArray) (w : World) (hs0 : 4 ≤ s.size) (hs1 : s.size ≤ 1000) (ha : ∀ z ∈ numsOf s, 0 ≤ z ∧ z < 128) :
    Calls Tryd.prog 19 #[.string s] w fun e w' => e = .returned (.string (strOf (ptTo (numsOf s) s.size))) ∧ Below w.heap.size w w' := by
  have HB := Lib.hid (fun k (hk : k ≤ s.size) => pt_bd ha k (by rw [nums_len]; exact hk))
  have HA := Lib.hid ha
  have HL := Lib.hid (nums_len s)
  clear ha
  go_enter Tryd.func19, Tryd.ntmps19
  go_wp2
  go_loopg [3] (s.size + 1) (fun gk v wr => ∃ k : Nat, k ≤ s.size ∧ gk = s.size + 1 - k ∧ wr.ownsRow (w.heap.size + 1) 21 1 v (ptTo (numsOf s) k).length ((ptTo (numsOf s) k).map (Value.int .i32)) ∧ wr.heap[w.heap.size]? = some (.stringIter s k) ∧ Below w.heap.size w wr)
  case atStart => exact ⟨0, Nat.zero_le _, rfl, World.ownsRow_nil _ _ _ _, World.iter_heap w s 0, (Below.refl _ _).alloc (Nat.le_refl _) _⟩
  case round =>
    obtain ⟨k, hk, hgk, hoa, hit, hb⟩ := hrel
    have HGK := Lib.hid hgk
    clear hgk
    obtain ⟨hz, hlen⟩ := HB.out k hk
    have hsz : w.heap.size < wr.heap.size := (Array.getElem?_eq_some_iff.1 hit).1
    by_cases hp : k < s.size
    · have hd := nums_at hp
      have hdb := HA.out ((s[k]'hp).toNat : Int) (by
        unfold numsOf
        refine List.mem_map.2 ⟨s[k]'hp, ?_, rfl⟩
        rw [Array.mem_toList_iff]
        exact Array.getElem_mem ..)
      have hnx : ∀ ty, (Instr.next (.pointer (some ⟨w.heap.size, 0, none⟩)) true ty).run Tryd.prog wr = _ := fun ty => Lib.run_next_ascii_at wr w.heap.size s k ty hit hp (by omega)
      have hit1 := Lib.iterAt_heap wr w.heap.size s k (k + 1) hit
      have hoa1 := own_iter (K := w.heap.size) (s := s) (p := k + 1) hoa (by omega)
      have hb1 := Lib.below_iterAt hb (k := w.heap.size) (Nat.le_refl _) s (k + 1)
      have hsz1 : w.heap.size + 1 ≤ (wr.iterAt w.heap.size s (k + 1)).heap.size := by rw [Lib.iterAt_size]; omega
      have he : ptTo (numsOf s) (k + 1) = ptStep s.size k ((s[k]'hp).toNat : Int) (ptTo (numsOf s) k) := by
        show ptStep (numsOf s).length k ((numsOf s).getD k 0) _ = _
        rw [HL.out, hd]
      generalize ((s[k]'hp).toNat : Int) = d at *
      generalize ptTo (numsOf s) k = acc at *
      obtain ⟨B, c, rfl, hc⟩ := own_form hoa
      have hlt : (k : Int) < (s.size : Int) := by omega
      have H1 := Lib.hid (show ∀ w, Calls Tryd.prog 28 #[.int .i32 d, .bool true] w fun e w' => e = .returned (.bool true) ∧ w = w' from fun w => sc_needed d true w)
      have HO := Lib.hid hoa1
      have HI := Lib.hid hit1
      have HBW := Lib.hid hb1
      have HE := Lib.hid he
      clear hd hdb hit hoa hb he hit1 hoa1 hb1
      generalize wr.iterAt w.heap.size s (k + 1) = w1 at *
      by_cases hA : k + 3 = s.size
      · have ta : ((k : Int) == (s.size : Int) - 3) = true := by simp; omega
        have he2 := HE.out
        unfold ptStep at he2
        rw [if_pos hA] at he2
        go_wp2_with (at_builtin; refine app_rune rfl _ _ rfl 46 rfl rfl HO.out hsz1 (by omega) ?_)
        intro v2 w2 ho2 hg2
        obtain ⟨hit2, hb2, hsz2⟩ := rune_put HO.out HI.out HBW.out hg2
        obtain ⟨B2, c2, rfl, hc2⟩ := own_form ho2
        have HO2 := Lib.hid ho2
        have HI2 := Lib.hid hit2
        have HB2 := Lib.hid hb2
        have hsz3 : w.heap.size + 1 ≤ w2.heap.size := hsz2
        have hpos : decide ((0 : Int) < ((acc.length : Int) + 1)) = true := decide_eq_true (by omega)
        clear ho2 hit2 hb2 hg2
        go_wp2_with (first
          | (go_at_call 28; refine (H1.out _).mono ?_; rintro e w' ⟨rfl, rfl⟩)
          | (at_builtin; refine app_rune rfl _ _ rfl d rfl rfl HO2.out hsz3 (by omega) ?_))
        intro v3 w3 ho3 hg3
        obtain ⟨hit3, hb3, hsz4⟩ := rune_put HO2.out HI2.out HB2.out hg3
        go_wp2
        go_roundg (s.size + 1 - (k + 1))
        case measure => have := HGK.out; omega
        case rel => exact ⟨k + 1, by omega, rfl, by rw [he2]; simpa using ho3, hit3, hb3⟩
      · have ta : ((k : Int) == (s.size : Int) - 3) = false := by simp; omega
        by_cases hE : acc = []
        · by_cases hF : s.size ≤ k + 4
          · have tp : decide (0 < acc.length) = false := by rw [hE]; rfl
            have tq : decide ((s.size : Int) - 3 - 1 ≤ (k : Int)) = true := decide_eq_true (by omega)
            have he2 := HE.out
            unfold ptStep at he2
            rw [if_neg hA, if_pos (.inr (.inl hF))] at he2
            have he2 := Lib.hid he2
            clear hF hA HE hz hE
            go_wp2_with (first
              | (go_at_call 28; refine (H1.out _).mono ?_; rintro e w' ⟨rfl, rfl⟩)
              | (at_builtin; refine app_rune rfl _ _ rfl d rfl rfl HO.out hsz1 (by omega) ?_))
            intro v3 w3 ho3 hg3
            obtain ⟨hit3, hb3, hsz4⟩ := rune_put HO.out HI.out HBW.out hg3
            go_wp2
            go_roundg (s.size + 1 - (k + 1))
            case measure => have := HGK.out; omega
            case rel => exact ⟨k + 1, by omega, rfl, by rw [he2.out]; simpa using ho3, hit3, hb3⟩
          · have tp : decide (0 < acc.length) = false := by rw [hE]; rfl
            have tq : decide ((s.size : Int) - 3 - 1 ≤ (k : Int)) = false := decide_eq_false (by omega)
            by_cases hD : d = 48
            · have he2 := HE.out
              unfold ptStep at he2
              rw [if_neg hA, if_neg (by rintro (h | h | h); exact h hE; exact hF h; exact h hD)] at he2
              have H0 := Lib.hid (show ∀ w, Calls Tryd.prog 28 #[.int .i32 d, .bool false] w fun e w' => e = .returned (.bool false) ∧ w = w' from fun w => by
                have h := sc_needed d false w
                rwa [hD, show (false || ((48 : Int) != 48)) = false from rfl, ← hD] at h)
              have he2 := Lib.hid he2
              clear hF hA hD HE hz hE
              go_wp2_with (go_at_call 28; refine (H0.out _).mono ?_; rintro e w' ⟨rfl, rfl⟩)
              go_roundg (s.size + 1 - (k + 1))
              case measure => have := HGK.out; omega
              case rel => exact ⟨k + 1, by omega, rfl, by rw [he2.out]; exact HO.out, HI.out, HBW.out⟩
            · have he2 := HE.out
              unfold ptStep at he2
              rw [if_neg hA, if_pos (.inr (.inr hD))] at he2
              have H0 := Lib.hid (show ∀ w, Calls Tryd.prog 28 #[.int .i32 d, .bool false] w fun e w' => e = .returned (.bool true) ∧ w = w' from fun w => by
                have h := sc_needed d false w
                rwa [show (false || (d != 48)) = true by simp [hD]] at h)
              have he2 := Lib.hid he2
              clear hF hA hD HE hz hE
              go_wp2_with (first
                | (go_at_call 28; refine (H0.out _).mono ?_; rintro e w' ⟨rfl, rfl⟩)
                | (at_builtin; refine app_rune rfl _ _ rfl d rfl rfl HO.out hsz1 (by omega) ?_))
              intro v3 w3 ho3 hg3
              obtain ⟨hit3, hb3, hsz4⟩ := rune_put HO.out HI.out HBW.out hg3
              go_wp2
              go_roundg (s.size + 1 - (k + 1))
              case measure => have := HGK.out; omega
              case rel => exact ⟨k + 1, by omega, rfl, by rw [he2.out]; simpa using ho3, hit3, hb3⟩
        · have hlp : 0 < acc.length := List.length_pos_iff.2 hE
          have tp : decide ((0 : Int) < (acc.length : Int)) = true := decide_eq_true (by omega)
          have he2 := HE.out
          unfold ptStep at he2
          rw [if_neg hA, if_pos (.inl hE)] at he2
          clear hE
          go_wp2_with (first
            | (go_at_call 28; refine (H1.out _).mono ?_; rintro e w' ⟨rfl, rfl⟩)
            | (at_builtin; refine app_rune rfl _ _ rfl d rfl rfl HO.out hsz1 (by omega) ?_))
          intro v3 w3 ho3 hg3
          obtain ⟨hit3, hb3, hsz4⟩ := rune_put HO.out HI.out HBW.out hg3
          go_wp2
          go_roundg (s.size + 1 - (k + 1))
          case measure => have := HGK.out; omega
          case rel => exact ⟨k + 1, by omega, rfl, by rw [he2]; simpa using ho3, hit3, hb3⟩
    · obtain rfl : k = s.size := by omega
      have hnx : ∀ ty, (Instr.next (.pointer (some ⟨w.heap.size, 0, none⟩)) true ty).run Tryd.prog wr = _ := fun ty => Lib.run_next_end_at wr w.heap.size s s.size ty hit (by omega)
      obtain ⟨B, c, rfl, hc⟩ := own_form hoa
      have hcv := conv_runes hoa rfl hz
      have HBW := Lib.hid hb
      clear hoa hit hz hb
      go_wp2
      go_ret
      exact ⟨rfl, HBW.out⟩
end Go.Proofs.YtjdahghnfgblgaaDoor
