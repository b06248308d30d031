/- What ring and the document read off a list: the one that stands back, the greatest one, the sum; are two lists the same? -/
import Derived.Test.YtmemhlhjkpijpaaRing
import Derived.WalkLawsBesides
namespace Go.Proofs.Ytmemhlhjkpijpaa
set_option maxRecDepth 100000
open Go.RowKit
set_option linter.unusedVariables false
set_option linter.unusedSimpArgs false

def backB (n : Nat) (k : Int) : Bool := decide (0 ≤ k ∧ k < (n : Int))
def backV (xs : List Int) (k : Int) : Int := if backB xs.length k = true then xs.getD (xs.length - 1 - k.toNat) 0 else 0
theorem Ints.at_ {w : World} {A : Option Addr} {n : Nat} {xs : List Int} (h : Ints w A n xs) {k : Nat} (hk : k < n) : ∃ b off, A = some ⟨b, off, none⟩ ∧ b < w.heap.size ∧ w.cell? ⟨b, off + k, none⟩ = some (.int .i64 (xs.getD k 0)) := by
  obtain ⟨b, off, e, hb, hc⟩ := h.2 (by omega)
  exact ⟨b, off, e, hb, hc k hk⟩

/-- The greatest of a and the numbers behind it, one by one. -/
def mx (a : Int) (l : List Int) : Int := l.foldl (fun m x => if m < x then x else m) a
theorem mx_step (a : Int) (xs : List Int) (k : Nat) (hk : k < xs.length) : mx a (xs.take (k + 1)) = if mx a (xs.take k) < xs.getD k 0 then xs.getD k 0 else mx a (xs.take k) := by
  unfold mx
  rw [List.take_add_one, List.foldl_append]
  simp [List.getD, List.getElem?_eq_getElem hk]
def mostV (xs : List Int) : Int := mx (xs.getD 0 0) xs
def mostB (n : Nat) : Bool := decide (0 < n)

def eqL (xs ys : List Int) : Bool := decide (xs = ys)
theorem eqL_refl (xs : List Int) : eqL xs xs = true := by simp [eqL]
theorem take_eq_step {xs ys : List Int} {k : Nat} (h : xs.take k = ys.take k) (hx : k < xs.length) (hy : k < ys.length) (e : xs.getD k 0 = ys.getD k 0) : xs.take (k + 1) = ys.take (k + 1) := by
  rw [List.take_add_one, List.take_add_one, h]
  simp only [List.getD, List.getElem?_eq_getElem hx, List.getElem?_eq_getElem hy, Option.getD_some] at e
  simp [List.getElem?_eq_getElem hx, List.getElem?_eq_getElem hy, e]

theorem law4_ints (A B : Option Addr) (n c m d : Nat) (xs ys : List Int) (w : World) (h : Ints w A n xs) (g : Ints w B m ys) (hn : n ≤ 9223372036854775807) (hm : m ≤ 9223372036854775807) :
    Calls Try.prog 25 #[.slice A n c, .slice B m d] w fun e w' => e = .returned (.bool (eqL xs ys)) ∧ ∃ t, w' = w.drewN t := by
  by_cases hl : n = m
  · subst hl
    have HA := Lib.hid h
    have HB := Lib.hid g
    have LA := Lib.hid h.1
    have LB := Lib.hid g.1
    clear h g
    obtain ⟨E, hE⟩ : ∃ E, eqL xs ys = E := ⟨_, rfl⟩
    rw [hE]
    have HE := Lib.hid hE
    clear hE
    go_enter Try.func25, Try.ntmps25
    go_wp2
    go_loopw [13] (fun i wr => ∃ k t : Nat, k ≤ n ∧ i = .int .i64 k ∧ xs.take k = ys.take k ∧ wr = w.drewN t) (fun i _ => n - (intOf i).toNat)
    case atStart => exact ⟨0, 0, Nat.zero_le _, rfl, rfl, rfl⟩
    case round =>
      obtain ⟨k, t, hk, rfl, ht, rfl⟩ := hrel
      by_cases hlt : k < n
      · obtain ⟨b, off, rfl, _, hca⟩ := HA.out.at_ hlt
        obtain ⟨b', off', rfl, _, hcb⟩ := HB.out.at_ hlt
        by_cases hx : xs.getD k 0 = ys.getD k 0
        · have HT := Lib.hid (take_eq_step ht (by have := LA.out; omega) (by have := LB.out; omega) hx)
          rw [← hx] at hcb
          clear ht hx
          generalize xs.getD k 0 = x at *
          go_wp2
          go_quiet (fail)
          go_wp2
          go_roundw
          case rel => exact ⟨k + 1, _, by omega, by go_num, HT.out, rfl⟩
          case measure => simp [intOf]; omega
        · have e : eqL xs ys = false := by
            unfold eqL; rw [decide_eq_false_iff_not]; rintro rfl; exact hx rfl
          have q : (xs.getD k 0 != ys.getD k 0) = true := by simpa using hx
          have HQ := Lib.hid (HE.out.symm.trans e)
          clear ht e hx
          generalize xs.getD k 0 = x at *
          generalize ys.getD k 0 = y at *
          go_wp2
          go_quiet (fail)
          go_wp2
          go_ret
          exact ⟨ret_b HQ.out.symm, _, World.drewN_drewN _ _ _⟩
      · obtain rfl : k = n := by omega
        have e : eqL xs ys = true := by
          rw [List.take_of_length_le (by have := LA.out; omega), List.take_of_length_le (by have := LB.out; omega)] at ht
          rw [ht]; exact eqL_refl _
        have HQ := Lib.hid (HE.out.symm.trans e)
        clear ht e
        go_wp2
        go_ret
        exact ⟨ret_b HQ.out.symm, _, rfl⟩
  · have e : eqL xs ys = false := by
      unfold eqL; rw [decide_eq_false_iff_not]; rintro rfl; exact hl (h.1 ▸ g.1)
    have q : ((n : Int) != (m : Int)) = true := by simp; omega
    rw [e]
    clear h g hl e
    go_enter Try.func25, Try.ntmps25
    go_wp2
    go_ret
    exact ⟨rfl, 0, rfl⟩
end Go.Proofs.Ytmemhlhjkpijpaa
