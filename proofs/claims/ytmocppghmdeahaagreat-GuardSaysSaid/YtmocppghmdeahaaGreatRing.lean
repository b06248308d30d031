/- Contracts of package ring: lists of numbers that keep what was last. -/
import Derived.Test.YtmocppghmdeahaaGreatSatSum
import Derived.Test.YtmocppghmdeahaaGreatAt
import Derived.Test.YtmocppghmdeahaaGreatApp
import Derived.ArgAppend
import Derived.Laws.CopyOwn
namespace Go.Proofs.YtmocppghmdeahaaGreat
set_option maxRecDepth 100000
open Go.RowKit
set_option linter.unusedVariables false
set_option linter.unusedSimpArgs false

/-- How many of n the last k are. -/
def cntV (n : Nat) (k : Int) : Nat := if k < 0 then 0 else if (n : Int) < k then n else k.toNat
theorem cntV_le (n : Nat) (k : Int) : cntV n k ≤ n := by unfold cntV; split <;> (try split) <;> omega
theorem cntV_with (n : Nat) (k : Int) : withV k 0 n = (cntV n k : Int) := by unfold cntV withV; split <;> (try split) <;> (try split) <;> omega
def lastL (xs : List Int) (k : Int) : List Int := xs.drop (xs.length - cntV xs.length k)
theorem lastL_len (xs : List Int) (k : Int) : (lastL xs k).length = cntV xs.length k := by
  unfold lastL; have := cntV_le xs.length k; simp; omega

/-- Where what is left of a list begins that is cut off ahead of the last m ones. -/
def tailA (A : Option Addr) (r m : Nat) : Option Addr := if m = 0 then A else A.map (·.add r)

theorem ring_tail (A : Option Addr) (r m c : Nat) (k : Int) (w : World) (hk : cntV (r + m) k = m) (hc : r + m ≤ c) (hn : r + m ≤ 9223372036854775807) :
    Calls Tryz.prog 86 #[.slice A (r + m) c, .int .i64 k] w fun e w' => e = .returned (.slice (tailA A r m) m m) ∧ w = w' := by
  have hT := sat_within k 0 (r + m : Nat) w
  rw [cntV_with, hk] at hT
  generalize withB k 0 (r + m : Nat) = b at *
  clear hk
  by_cases h0 : m = 0
  · subst h0
    go_enter Tryz.func86, Tryz.ntmps86
    go_wp2_with (go_at_call 76; refine hT.mono ?_; rintro e w' ⟨rfl, rfl⟩; clear hT)
    all_goals go_ret
    exact ⟨rfl, rfl⟩
  · go_enter Tryz.func86, Tryz.ntmps86
    go_wp2_with (go_at_call 76; refine hT.mono ?_; rintro e w' ⟨rfl, rfl⟩; clear hT)
    all_goals go_ret
    exact ⟨by show Ending.returned (.slice (Option.map (fun x => x.add r) A) (r + m - r) (r + m - r)) = _; rw [Nat.add_sub_cancel_left]; unfold tailA; rw [if_neg h0], rfl⟩

/-- An answer that is a new list of numbers; nothing that was there has turned. -/
def NewInts (w : World) (ys : List Int) (e : Ending) (w' : World) : Prop :=
  ∃ B d, e = .returned (.slice B ys.length d) ∧ ys.length ≤ d ∧ Ints w' B ys.length ys ∧ Below w.heap.size w w'
theorem NewInts.of_own {w w' : World} {base e n : Nat} {v : Value} {ys : List Int} (h : w'.ownsRow base e 1 v n (ys.map (Value.int .i64))) (hn : ys.length = n) (hb : Below w.heap.size w w') : NewInts w ys (.returned v) w' := by
  obtain ⟨B, d, rfl, hd⟩ := own_form h
  subst hn
  exact ⟨B, d, rfl, hd, Ints.of_own h rfl, hb⟩
/-- The same, and the list's room is the call's own. -/
def OwnInts (w : World) (ys : List Int) (e : Ending) (w' : World) : Prop :=
  ∃ v, e = .returned v ∧ w'.ownsRow w.heap.size 3 1 v ys.length (ys.map (Value.int .i64)) ∧ Below w.heap.size w w'
theorem OwnInts.new {w w' : World} {e : Ending} {ys : List Int} (h : OwnInts w ys e w') : NewInts w ys e w' := by
  obtain ⟨v, rfl, ho, hb⟩ := h; exact NewInts.of_own ho rfl hb
theorem own_base {w : World} {base base' e size n : Nat} {v : Value} {cs : List Value} (h : w.ownsRow base e size v n cs) (hb : base' ≤ base) : w.ownsRow base' e size v n cs := by
  refine ⟨h.1, ?_⟩
  rcases h.2 with h2 | ⟨g, cap, cur, hv, hg, r⟩
  · exact .inl h2
  · exact .inr ⟨g, cap, cur, hv, Nat.le_trans hb hg, r⟩
theorem OwnInts.from {w w1 w' : World} {e : Ending} {ys : List Int} (h : OwnInts w1 ys e w') (hb : Below w.heap.size w w1) : OwnInts w ys e w' := by
  obtain ⟨v, he, ho, hb1⟩ := h
  exact ⟨v, he, own_base ho hb.size, Below.trans hb (hb1.mono hb.size)⟩
/-- A row of a call's own stays where nothing below the heap's size turns. -/
theorem own_below {w w' : World} {base e size n : Nat} {v : Value} {cs : List Value} (h : w.ownsRow base e size v n cs) (hb : Below w.heap.size w w') : w'.ownsRow base e size v n cs := by
  refine ⟨h.1, ?_⟩
  rcases h.2 with h2 | ⟨g, cap, cur, hv, hg, hh, r⟩
  · exact .inl h2
  · exact .inr ⟨g, cap, cur, hv, hg, by rw [hb.block g (Array.getElem?_eq_some_iff.1 hh).1]; exact hh, r⟩
def roomN (most : Int) : Nat := cntV 512 most
theorem roomN_le (most : Int) : roomN most ≤ 512 := cntV_le _ _
def pushL (xs : List Int) (most x : Int) : List Int := if roomN most = 0 then [] else lastL xs ((roomN most : Int) - 1) ++ [x]

theorem pushL_len (xs : List Int) (most x : Int) : (pushL xs most x).length ≤ 512 := by
  have := roomN_le most
  unfold pushL
  split
  · simp
  · rw [List.length_append, lastL_len]
    unfold cntV
    simp
    split <;> (try split) <;> omega

theorem ints_tail {w : World} {A : Option Addr} {r m : Nat} {xs : List Int} (h : Ints w A (r + m) xs) : Ints w (tailA A r m) m (xs.drop r) := by
  refine ⟨by have := h.1; simp; omega, fun hm => ?_⟩
  obtain ⟨b, off, rfl, hlt, hc⟩ := h.2 (by omega)
  refine ⟨b, off + r, by unfold tailA; rw [if_neg (by omega)]; simp [Addr.add_lit], hlt, fun i hi => ?_⟩
  rw [Nat.add_assoc, hc (r + i) (by omega)]
  simp [List.getD]

theorem ring_push_own (A : Option Addr) (n c : Nat) (xs : List Int) (most x : Int) (w : World) (h : Ints w A n xs) (hc : n ≤ c) (hr : n * 8 ≤ 140737488351232) :
    Calls Tryz.prog 88 #[.slice A n c, .int .i64 most, .int .i64 x] w (OwnInts w (pushL xs most x)) := by
  have hW := sat_within most 0 512 w
  rw [show (512 : Int) = ((512 : Nat) : Int) by rfl, cntV_with] at hW
  have hl := roomN_le most
  unfold pushL
  change Calls _ _ _ _ fun e w' => e = .returned (.tuple #[.int .i64 (roomN most), .bool _]) ∧ w = w' at hW
  generalize roomN most = q at *
  generalize withB most 0 (512 : Nat) = b at *
  have hW0 : True := trivial
  by_cases h0 : q = 0
  · subst h0
    rw [if_pos rfl]
    clear hr h
    go_enter Tryz.func88, Tryz.ntmps88
    go_wp2_with (go_at_call 76; refine hW.mono ?_; rintro e w' ⟨rfl, rfl⟩; clear hW)
    all_goals go_ret
    exact ⟨_, rfl, World.ownsRow_nil _ _ _ _, Below.refl _ _⟩
  · rw [if_neg h0]
    obtain ⟨p, rfl⟩ : ∃ p, q = p + 1 := ⟨q - 1, by omega⟩
    rw [show ((p + 1 : Nat) : Int) - 1 = (p : Int) by omega]
    obtain ⟨m, hm⟩ : ∃ m, cntV n (p : Int) = m := ⟨_, rfl⟩
    have hmn : m ≤ n := hm ▸ cntV_le _ _
    obtain ⟨r, rfl⟩ : ∃ r, n = r + m := ⟨n - m, by omega⟩
    obtain ⟨i0, hi0, hz0, hz1, hz2⟩ := info_parts int_info
    have hT := ring_tail A r m c _ w hm hc (by omega)
    have hI := ints_tail h
    have hL : lastL xs (p : Int) = xs.drop r := by
      unfold lastL; rw [h.1, hm, Nat.add_sub_cancel]
    rw [hL]
    have hlen : (xs.drop r).length = m := hI.1
    have HI := Lib.hid hI
    have HL := Lib.hid hlen
    have HT := Lib.hid hT
    generalize xs.drop r = ys at *
    generalize tailA A r m = T at *
    clear h hm hL hT hI hlen hW0
    go_enter Tryz.func88, Tryz.ntmps88
    go_wp2_with (first
      | (go_at_call 76; refine hW.mono ?_; rintro e w' ⟨rfl, rfl⟩; clear hW)
      | (go_at_call 86; refine HT.out.mono ?_; rintro e w' ⟨rfl, rfl⟩)
      | (at_builtin; refine wpList_append_grows _ rfl _ _ 28 rfl 3 i0 (.int .i64 0) 1 8 Tryz.underlying28 hi0 hz0 hz1 hz2 rfl (by decide) T m m (ys.map (Value.int .i64)) rfl ?c1 ?c2 ?c3 ⟨w.heap.size, 0, none⟩ 1 1 [.int .i64 x] rfl rfl ?c4 ?c5 ?c6 ?c7 ?c8 ?_))
    case c1 => intro e; by_cases hm0 : 0 < m
               · obtain ⟨b, off, e', _⟩ := HI.out.2 hm0; rw [e] at e'; cases e'
               · omega
    case c2 => have := HL.out; simp; omega
    case c3 =>
      rintro bb rfl j u hu
      have hj : j < m := by have := (List.getElem?_eq_some_iff.1 hu).1; have := HL.out; simp at *; omega
      obtain ⟨b, off, e', hlt, hcell⟩ := HI.out.2 (by omega)
      cases e'
      rw [Addr.add_lit, World.cell?_alloc_lt _ _ _ hlt, hcell j hj]
      rw [List.getElem?_map, Option.map_eq_some_iff] at hu
      obtain ⟨y, hy, rfl⟩ := hu
      simp [List.getD, hy]
    case c4 =>
      intro j u hj
      match j, hj with
      | 0, hj => simp at hj; subst hj; simp [Addr.add]
    case c5 => intro u hu; simp at hu; subst hu; rfl
    case c6 => omega
    case c7 => unfold maxLen; omega
    case c8 => omega
    intro v' w' hown hg
    have hb : Below w.heap.size w w' := ((Below.refl w.heap.size w).alloc (Nat.le_refl _) _).grown hg (by simp) (fun _ h => by cases h)
    have hN : OwnInts w (ys ++ [x]) (.returned v') w' := ⟨v', rfl, by rw [List.length_append, HL.out]; exact own_base (by simpa using hown) (by simp), hb⟩
    clear hown hg
    have HN := Lib.hid hN
    clear hN
    go_wp2
    go_ret
    exact HN.out
theorem ring_push (A : Option Addr) (n c : Nat) (xs : List Int) (most x : Int) (w : World) (h : Ints w A n xs) (hc : n ≤ c) (hr : n * 8 ≤ 140737488351232) :
    Calls Tryz.prog 88 #[.slice A n c, .int .i64 most, .int .i64 x] w (NewInts w (pushL xs most x)) :=
  (ring_push_own A n c xs most x w h hc hr).mono fun _ _ h => h.new
end Go.Proofs.YtmocppghmdeahaaGreat
