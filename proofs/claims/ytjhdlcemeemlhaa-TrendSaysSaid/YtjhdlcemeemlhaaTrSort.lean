/- The sort does what it is asked to. -/
import Derived.Test.YtjhdlcemeemlhaaTrSwept
import Derived.Test.YtjhdlcemeemlhaaTrCmp
import Derived.Test.YtjhdlcemeemlhaaTrLay
import Derived.Shelf.SlSortCmp.NoneTotal
namespace Go.Proofs.Ytjhdlcemeemlhaa
open Go.RowKit Go.Sort Go.Shelf
set_option linter.unusedVariables false
set_option linter.unusedSimpArgs false
set_option maxRecDepth 100000

theorem cm_lt (x y : Mi) : ltOf (fun x y : Mi => cmV x.first y.first) x y = decide (x.first < y.first) := by
  unfold ltOf cmV
  by_cases h1 : x.first < y.first
  · simp [h1]
  · by_cases h2 : y.first < x.first <;> simp [h1, h2]
theorem cm_swo : SWO (ltOf fun x y : Mi => cmV x.first y.first) where
  irrefl x := by rw [cm_lt]; simp
  trans x y z h1 h2 := by rw [cm_lt] at *; simp at *; omega
  ntrans x y z h1 h2 := by rw [cm_lt] at *; simp at *; omega
theorem sort_there : SortC := by
  intro W base n v l hown hl hn
  have eg : ∀ args w, (callFunc 19 args).run Try.prog w = .ok (.enter 19 args) w := enters_of Try.func19 (by kernel_rfl) rfl
  rcases hown.2 with ⟨rfl, rfl⟩ | ⟨g, cap, cur, rfl, hb, hh, r1, r2, r3, r4⟩
  · have hcon := AnyF.slices_SortFunc_none tr_lay6 none 0 (.func (.func 19) #[] #[]) W
    change Calls Try.prog 18 _ _ _ at hcon
    obtain rfl : l = [] := List.eq_nil_of_length_eq_zero hl
    exact hcon.mono fun e w' ⟨he, hw⟩ => ⟨he, [], List.Perm.refl _, List.Pairwise.nil, by rw [hw]; exact hown, by rw [hw]; exact World.grownBy.refl W _⟩
  · have hg : g < W.heap.size := (Array.getElem?_eq_some_iff.1 hh).1
    have hcmp : CmpLays Try.prog 19 #[] miC 8 (fun x y : Mi => cmV x.first y.first) g 0 l.toArray.size W := fun _ _ _ _ x y => tr_by x y _
    have hcon := AnyQ.slices_SortFunc tr_lay6 8 Try.isAgg39 Try.sizeOf39 miC miC_len (fun x u hu => one_mi x u hu) (fun x y : Mi => cmV x.first y.first) cm_swo 19 #[] g 0 cap l.toArray W eg hcmp (holds_row miC_len (by decide) hown hl) hg (by simp; omega)
    change Calls Try.prog 18 _ _ _ at hcon
    rw [show l.toArray.size = n by simpa using hl] at hcon
    refine hcon.mono fun e w' ⟨he, d, q, os, hp, hs, hw⟩ => ⟨he, d.toList, ?_, ?_, ?_⟩
    · have h3 := hp.2.2
      have hd : d.size = n := by rw [hp.1]; simpa using hl
      have e1 : d.extract 0 n = d := by rw [← hd]; simp
      have e2 : l.toArray.extract 0 n = l.toArray := by rw [← hl]; simp
      rw [e1, e2] at h3
      simpa using h3
    · have hd : d.size = n := by rw [hp.1]; simpa using hl
      rw [List.pairwise_iff_getElem]
      intro i j hi hj hij
      have h1 := hs i j (Nat.zero_le _) hij (by simpa [hd] using hj)
      rw [cm_lt] at h1
      simp at hi hj
      rw [getElem!_pos d j hj, getElem!_pos d i hi] at h1
      simp at h1 ⊢
      exact h1
    · have hd : d.toList.length = n := by rw [Array.length_toList, hp.1]; simpa using hl
      have h1 := sorted_row (q := q) (os := os) (d := d.toList) miC_len (by decide) hown hd
      have e1 : d.toList.toArray = d := by simp
      rw [e1, ← hw] at h1
      exact ⟨h1.1, h1.2⟩
end Go.Proofs.Ytjhdlcemeemlhaa
