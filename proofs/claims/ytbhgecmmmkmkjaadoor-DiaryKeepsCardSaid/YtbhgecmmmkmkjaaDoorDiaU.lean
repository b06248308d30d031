/- Contracts of the document's diary: the text; and the law package's awake. -/
import Derived.Test.YtbhgecmmmkmkjaaDoorDiaT
import Derived.Test.YtbhgecmmmkmkjaaDoorDiaP
import Derived.Test.YtbhgecmmmkmkjaaDoorDia
namespace Go.Proofs.YtbhgecmmmkmkjaaDoor
open Go.RowKit Go.Deep
set_option linter.unusedVariables false
set_option linter.unusedSimpArgs false
set_option maxRecDepth 100000
attribute [local go_sem] cell_set_ite Near.cell Near.frozen
attribute [-go_sem] run_string_add_if

theorem rd_number (n : Int) (w : World) (h : I64 n) (ht : ItTab w) : Calls Tryd.prog 27 #[.int .i64 n] w fun e w' => e = .returned (.string (itS n)) ∧ Below w.heap.size w w' := by
  have K := Lib.hid (itoa_b n h.1 h.2 w ht)
  clear h ht
  generalize itS n = p at *
  go_enter Tryd.func27, Tryd.ntmps27
  go_wp2_with (go_at_call 23; refine K.out.mono ?_; rintro e w' ⟨rfl, hb⟩)
  have HB := Lib.hid hb
  all_goals go_ret
  all_goals exact ⟨rfl, HB.out⟩

theorem wd_ways (m : Int) : (m = 1 ∧ wdV m = ⟨#[109, 111, 100, 101]⟩) ∨ (m = 2 ∧ wdV m = ⟨#[108, 97, 116, 99, 104]⟩) ∨ (m = 3 ∧ wdV m = ⟨#[97, 99, 107]⟩) ∨ (m = 4 ∧ wdV m = ⟨#[112, 114, 111, 103, 114, 97, 109, 109, 101]⟩) ∨ (m = 5 ∧ wdV m = ⟨#[100, 114, 111, 112]⟩) ∨ (m = 6 ∧ wdV m = ⟨#[98, 111, 111, 116]⟩) ∨ (m = 7 ∧ wdV m = ⟨#[119, 114, 105, 116, 101]⟩) ∨ (m < 1 ∧ wdV m = ⟨#[63]⟩) ∨ (7 < m ∧ wdV m = ⟨#[63]⟩) := by
  rcases (by omega : m = 1 ∨ m = 2 ∨ m = 3 ∨ m = 4 ∨ m = 5 ∨ m = 6 ∨ m = 7 ∨ m < 1 ∨ 7 < m) with rfl | rfl | rfl | rfl | rfl | rfl | rfl | h | h
  · exact .inl ⟨rfl, rfl⟩
  · exact .inr (.inl ⟨rfl, rfl⟩)
  · exact .inr (.inr (.inl ⟨rfl, rfl⟩))
  · exact .inr (.inr (.inr (.inl ⟨rfl, rfl⟩)))
  · exact .inr (.inr (.inr (.inr (.inl ⟨rfl, rfl⟩))))
  · exact .inr (.inr (.inr (.inr (.inr (.inl ⟨rfl, rfl⟩)))))
  · exact .inr (.inr (.inr (.inr (.inr (.inr (.inl ⟨rfl, rfl⟩))))))
  all_goals
    have e : wdV m = ⟨#[63]⟩ := by unfold wdV; simp only [show ¬ m = 1 by omega, show ¬ m = 2 by omega, show ¬ m = 3 by omega, show ¬ m = 4 by omega, show ¬ m = 5 by omega, show ¬ m = 6 by omega, show ¬ m = 7 by omega, if_false]
  · exact .inr (.inr (.inr (.inr (.inr (.inr (.inr (.inl ⟨h, e⟩)))))))
  · exact .inr (.inr (.inr (.inr (.inr (.inr (.inr (.inr ⟨h, e⟩)))))))

set_option maxHeartbeats 8000000 in
theorem rd_text (xt xw xa : Int) (w : World) (ht : I64 xt) (ha : I64 xa) (hI : ItTab w) : Calls Tryd.prog 17 #[.agg #[.int .i64 xt, .int .i64 xw, .int .i64 xa]] w fun e w' => e = .returned (.string (txV ⟨xt, xw, xa⟩)) ∧ Below w.heap.size w w' := by
  have HI := Lib.hid hI
  have HE := Lib.hid (show txV ⟨xt, xw, xa⟩ = ((((itS xt) ++ ⟨#[32]⟩) ++ wdV xw) ++ ⟨#[32]⟩) ++ itS xa from rfl)
  clear hI
  have l3 := wdV_len xw
  rcases wd_ways xw with ⟨rfl, hv⟩ | ⟨rfl, hv⟩ | ⟨rfl, hv⟩ | ⟨rfl, hv⟩ | ⟨rfl, hv⟩ | ⟨rfl, hv⟩ | ⟨rfl, hv⟩ | ⟨h, hv⟩ | ⟨h, hv⟩
  all_goals
    rw [hv] at HE l3
    clear hv
    go_enter Tryd.func17, Tryd.ntmps17
    go_upto_region 5 with (fail)
    refine at_world (fun W => Below w.heap.size w W ∧ Box W w.heap.size #[.int .i64 xt, .int .i64 _, .int .i64 xa]) ⟨by (repeat (first | (with_reducible exact Below.refl _ _) | (with_reducible assumption) | (with_reducible refine Near.up _ ?_) | (with_reducible refine Below.drew ?_) | (with_reducible refine below_alloc_on ?_ _) | (with_reducible refine below_set_on ?_ (by first | (simp; done) | (simp; omega) | omega) _))), (box_new _ _ _).alloc _⟩ ?_
    obtain ⟨g, hg⟩ : ∃ g, w.heap.size = g := ⟨_, rfl⟩
    have A0 : Below w.heap.size w w := Below.refl _ _
    rintro W ⟨A1, BX⟩
    rw [hg] at BX
    obtain ⟨g2, hg2⟩ : ∃ g2, w.heap.size + 1 = g2 := ⟨_, rfl⟩
    simp only [hg2]
    simp only [hg]
    clear hg hg2
    obtain ⟨z0, z1, z2, zf, zl⟩ := BX.three
    have IW := HI.out.stays A1
    have K1 := Lib.hid (fun u : Near W => rd_number xt u.at_ ht (IW.stays u.below))
    have K3 := Lib.hid (fun u : Near W => rd_number xa u.at_ ha (IW.stays u.below))
    clear IW BX
    have l1 := itS_len xt ht
    have l2 := itS_len xa ha
    generalize itS xt = p at *
    generalize itS xa = q at *
    have e1 := fun W => str_add p ⟨#[32]⟩ W (by show _ + 1 ≤ _; omega)
    have m1 : (p ++ ⟨#[32]⟩ : ByteArray).size ≤ 25 := by rw [ByteArray.size_append]; show _ + 1 ≤ _; omega
    generalize p ++ (⟨#[32]⟩ : ByteArray) = s1 at *
    have e2 := fun W => str_add s1 _ W (Nat.le_trans (Nat.add_le_add m1 l3) (by decide))
    have m2 := ByteArray.size_append ▸ (Nat.add_le_add m1 l3)
    generalize hs2 : s1 ++ _ = s2 at e2 m2 HE
    have e3 := fun W => str_add s2 ⟨#[32]⟩ W (by show _ + 1 ≤ _; omega)
    have m3 : (s2 ++ ⟨#[32]⟩ : ByteArray).size ≤ 35 := by rw [ByteArray.size_append]; show _ + 1 ≤ _; omega
    clear hs2
    generalize s2 ++ (⟨#[32]⟩ : ByteArray) = s3 at *
    have e4 := fun W => str_add s3 q W (by omega)
    generalize s3 ++ q = s4 at *
    clear l1 l2 l3 m1 m2 m3
    refine wp_region_calm (by kernel_rfl) (by kernel_rfl) ?_
    repeat (go_big_quiet_step (((go_at_call 27; first | exact calm_of _ (K1.out _) | exact calm_of _ (K3.out _)))))
    refine wpQuiet_nil ?_
    intro _ hw'
    obtain ⟨u, rfl⟩ := hw'
    have A2 := below_call A1 u.below
    have HA2 := Lib.hid A2
    clear A1 A2
    go_wp2
    all_goals go_ret
    all_goals exact ⟨by rw [HE.out]; rfl, HA2.out⟩
end Go.Proofs.YtbhgecmmmkmkjaaDoor
