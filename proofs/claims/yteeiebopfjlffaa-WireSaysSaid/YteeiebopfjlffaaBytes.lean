/- A []byte of the call's own, grown by append; read as a string at the end. -/
import Derived.Test.YteeiebopfjlffaaCalm
import Derived.Laws.IdiomStrings
import Derived.Deep.OwnRows
namespace Go.Proofs.Yteeiebopfjlffaa
set_option maxRecDepth 100000
open Go.RowKit
set_option linter.unusedVariables false
set_option linter.unusedSimpArgs false

theorem byte_info : (Try.prog.info? 5).map (fun i => (i.zero, i.size, i.bytes)) = some (some (.int .u8 0), 1, 1) := by kernel_rfl
def byteV (b : UInt8) : Value := .int .u8 (b.toNat : Int)

/-- A list of bytes that a call has put together so far. -/
def GrownB (w : World) (ys : List UInt8) (v : Value) (wr : World) : Prop :=
  (∃ B d, v = .slice B ys.length d ∧ ys.length ≤ d) ∧ wr.ownsRow w.heap.size 5 1 v ys.length (ys.map byteV) ∧ Below w.heap.size w wr
theorem GrownB.form {w wr : World} {ys : List UInt8} {v : Value} (h : GrownB w ys v wr) : ∃ B d, v = .slice B ys.length d ∧ ys.length ≤ d := h.1
theorem GrownB.nil (w : World) : GrownB w [] (.slice none 0 0) w :=
  ⟨⟨none, 0, rfl, Nat.le_refl _⟩, by simpa using World.ownsRow_nil w w.heap.size 5 1, Below.refl _ _⟩
theorem own_formB {w : World} {base e n : Nat} {v : Value} {cs : List Value} (h : w.ownsRow base e 1 v n cs) : ∃ B d, v = .slice B n d ∧ n ≤ d := by
  rcases h.2 with ⟨hv, h0⟩ | ⟨g, cap, cur, hv, _, _, hnc, _⟩
  · exact ⟨none, 0, by rw [hv, h0], by omega⟩
  · exact ⟨_, _, hv, hnc⟩
theorem GrownB.next {w wr w1 : World} {ys : List UInt8} {v v' : Value} {x : UInt8} {cs : Obj} (h : GrownB w ys v wr)
    (ho : w1.ownsRow w.heap.size 5 1 v' (ys.length + 1) (ys.map byteV ++ [byteV x])) (hg : (wr.alloc cs).grownBy w1 v.ownBlock) : GrownB w (ys ++ [x]) v' w1 := by
  obtain ⟨_, hown, hb⟩ := h
  refine ⟨by simpa using own_formB ho, by simpa using ho, (hb.alloc hb.size _).grown hg (by have := hb.size; simp; omega) (fun g hg => by have := (hown.lt g hg).1; omega)⟩
theorem GrownB.drew {w wr : World} {ys : List UInt8} {v : Value} (h : GrownB w ys v wr) : GrownB w ys v wr.drew :=
  ⟨h.1, h.2.1, below_drewN h.2.2 1⟩
theorem GrownB.text {w wr : World} {ys : List UInt8} {v : Value} (h : GrownB w ys v wr) (u : Near wr) :
    (convert 37 9 v).run Try.prog u.at_ = .ok (.string ⟨ys.toArray⟩) u.at_ := by
  obtain ⟨_, hown, _⟩ := h
  rcases hown.2 with ⟨hv, h0⟩ | ⟨g, cap, cur, hv, _, hg, hnc, _, hsz, htk⟩
  · obtain rfl : ys = [] := List.eq_nil_of_length_eq_zero h0
    rw [hv, run_convert_bytes_nil u.at_ 37 5 Try.underlying37 Try.underlying5 0 0 9 Try.underlying9]
    rfl
  · have hlt : g < wr.heap.size := by
      rcases Nat.lt_or_ge g wr.heap.size with hlt | hge
      · exact hlt
      · rw [Array.getElem?_eq_none hge] at hg; cases hg
    rw [hv]
    refine run_convert_bytes_back (P := Try.prog) u.at_ 37 9 5 ⟨g, 0, none⟩ cap ys Try.underlying37 Try.underlying5 Try.underlying9 (fun j hj => ?_)
    have e : ((⟨g, 0, none⟩ : Addr).add j) = ⟨g, j, none⟩ := by unfold Addr.add; split <;> simp_all
    subst hv
    rw [e, u.cell hlt, hown.cellAt j (by simpa using hj)]
    simp [List.getElem?_map, List.getElem?_eq_getElem hj, byteV]
end Go.Proofs.Yteeiebopfjlffaa
