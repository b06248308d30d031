/- The law package's own check 'awake' of stage 4; what a law's walk takes of the calls. -/
import Derived.Test.YtmocppghmdeahaaGreatMake
namespace Go.Proofs.YtmocppghmdeahaaGreat
set_option maxRecDepth 100000
open Go.RowKit
set_option linter.unusedVariables false
set_option linter.unusedSimpArgs false

theorem l4_ints (W : World) (A B : Option Addr) (n c m d : Nat) (xs ys : List Int) (w : World) (hb : At W w) (h : Ints w A n xs) (g : Ints w B m ys) (hn : n ≤ 9223372036854775807) (hm : m ≤ 9223372036854775807) :
    Calls Tryz.prog 40 #[.slice A n c, .slice B m d] w fun e w' => e = .returned (.bool (eqL xs ys)) ∧ At w w' ∧ At W w' :=
  (law4_ints A B n c m d xs ys w h g hn hm).mono fun e w' ⟨he, t, hw⟩ => ⟨he, hw ▸ (At.refl w).draws t, hw ▸ hb.draws t⟩

theorem Ints.at_W {W w : World} {A : Option Addr} {n : Nat} {xs : List Int} (h : Ints W A n xs) (hb : At W w) : Ints w A n xs := h.below hb
theorem At.trans {a b c : World} (h : At a b) (g : At b c) : At a c := Below.trans h (g.mono h.size)

theorem ints_new (w : World) (xs : List Int) : Ints (w.alloc (.cells (xs.map (Value.int .i64)).toArray 3)) (some ⟨w.heap.size, 0, none⟩) xs.length xs := by
  refine ⟨rfl, fun _ => ⟨w.heap.size, 0, rfl, by simp, fun i hi => ?_⟩⟩
  rw [World.cell?_alloc_at _ _ _ _ (by simp)]
  simp [List.getD, List.getElem?_eq_getElem hi]

end Go.Proofs.YtmocppghmdeahaaGreat
