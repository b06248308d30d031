/- The law package's own check 'awake' of stage 34. -/
import Derived.Test.YthfipnccjnekfaaLatN
import Derived.Test.YthfipnccjnekfaaLaw4
import Derived.Test.YthfipnccjnekfaaBx
namespace Go.Proofs.Ythfipnccjnekfaa
open Go.RowKit
set_option linter.unusedVariables false
set_option linter.unusedSimpArgs false

/-- Nothing of W has turned. -/
structure Kept (W w : World) : Prop where
  bel : Below W.heap.size W w
namespace Kept
variable {W w w' : World}
theorem call (h : Kept W w) (hb : Below w.heap.size w w') : Kept W w' := ⟨below_call h.bel hb⟩
theorem drew (h : Kept W w) : Kept W w.drew := ⟨Below.drew h.bel⟩
theorem alloc (h : Kept W w) (o : Obj) : Kept W (w.alloc o) := ⟨below_alloc_on h.bel o⟩
end Kept
/-- A list that can be read, as one fact. -/
structure Reads (w : World) (A : Option Addr) (n : Nat) (xs : List Int) : Prop where
  it : Ints w A n xs
namespace Reads
variable {w w' : World} {A : Option Addr} {n : Nat} {xs : List Int}
theorem call (h : Reads w A n xs) (hb : Below w.heap.size w w') : Reads w' A n xs := ⟨h.it.below hb⟩
theorem drew (h : Reads w A n xs) : Reads w.drew A n xs := ⟨h.it.below (Below.drew (Below.refl _ _))⟩
theorem alloc (h : Reads w A n xs) (o : Obj) : Reads (w.alloc o) A n xs := ⟨h.it.below (below_alloc_on (Below.refl _ _) o)⟩
end Reads
theorem reads_new (w : World) (x y : Int) : Reads (w.alloc (.cells #[.int .i64 x, .int .i64 y] 3)) (some ⟨w.heap.size, 0, none⟩) 2 [x, y] := ⟨ints_new w [x, y]⟩
theorem l34_ints (A B : Option Addr) (n c m d : Nat) (xs ys : List Int) (w : World) (h : Reads w A n xs) (g : Reads w B m ys) (hn : n ≤ 9223372036854775807) (hm : m ≤ 9223372036854775807) :
    Calls Try.prog 18 #[.slice A n c, .slice B m d] w fun e w' => e = .returned (.bool (eqL xs ys)) ∧ Below w.heap.size w w' :=
  (law4_ints A B n c m d xs ys w h.it g.it hn hm).mono fun e w' ⟨he, t, hw⟩ => ⟨he, hw ▸ below_drewN (Below.refl _ _) t⟩
theorem lt_which2 (w : World) : Calls Try.prog 19 #[.int .i64 640] w fun e w' => ∃ B d, e = .returned (.slice B 2 d) ∧ Reads w' B 2 [128, 512] ∧ Below w.heap.size w w' := by
  have h := lt_which 640 w
  rw [show whK 640 12 = [128, 512] by decide +kernel] at h
  exact h.mono fun e w' ho => by
    obtain ⟨B, d, he, _, hi, hb⟩ := ho.new
    exact ⟨B, d, he, ⟨hi⟩, hb⟩

theorem law34_awake (W : World) : Calls Try.prog 21 #[] W fun e w' => e = .returned (.bool true) ∧ Below W.heap.size W w' := by
  have e1 : raV 128 512 = 640 := by decide +kernel
  have e2 : lvV 640 = 3 := by decide +kernel
  have e3 : acV 640 128 = 128 := by decide +kernel
  have e4 : lvV 128 = 2 := by decide +kernel
  have e5 : lvV 0 = 0 := by decide +kernel
  have e6 : eqL [128, 512] [128, 512] = true := by decide
  have K0 : Kept W W := ⟨Below.refl _ _⟩
  go_enter Try.func21, Try.ntmps21
  go_wp2_with (first
      | (go_at_call 12; refine (lt_raise _ _ _).mono ?_; rintro e w' ⟨rfl, rfl⟩)
      | (go_at_call 16; refine (lt_level _ _).mono ?_; rintro e w' ⟨rfl, rfl⟩)
      | (go_at_call 14; refine (lt_ack _ _ _).mono ?_; rintro e w' ⟨rfl, rfl⟩)
      | (go_at_call 19; refine (lt_which2 _).mono ?_; rintro e w1 ⟨B, d, rfl, hi, hb⟩; have K1 := K0.call hb)
      | (go_at_call 18; refine (l34_ints _ _ _ _ _ _ [128, 512] [128, 512] _ (by repeat (first | assumption | exact reads_new _ _ _ | (refine Reads.drew ?_) | (refine Reads.alloc ?_ _))) (by repeat (first | assumption | exact reads_new _ _ _ | (refine Reads.drew ?_) | (refine Reads.alloc ?_ _))) (by omega) (by omega)).mono ?_; rintro e w2 ⟨rfl, hb2⟩))
  all_goals go_ret
  all_goals exact ⟨rfl, ((K1.alloc _).call hb2).bel⟩
end Go.Proofs.Ythfipnccjnekfaa
