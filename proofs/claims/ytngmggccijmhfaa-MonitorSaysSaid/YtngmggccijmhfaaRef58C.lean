/- Contracts of the document's meaning: a single atom; and of its monitor: ago, part, needs, New. -/
import Derived.Test.YtngmggccijmhfaaRef58B
import Derived.Test.YtngmggccijmhfaaGrown
namespace Go.Proofs.Ytngmggccijmhfaa
open Go.RowKit
set_option linter.unusedVariables false
set_option linter.unusedSimpArgs false
set_option maxRecDepth 100000
attribute [local go_sem] cell_set_ite Near.cell Near.frozen

theorem rt_one {t : Tm} (h : myB t = true) (h0 : ndN t.op = 0) : rtB (fun _ => t) 1 = true := by
  unfold rtB
  simp only [okB, rdN, h, h0]
  decide
set_option maxHeartbeats 2000000 in
theorem r6_parts_one (A : Option Addr) (c : Nat) (a b : Int) (hm : myB ⟨2, a, b⟩ = true) (w : World) (h : Terms w A 1 (fun _ => ⟨2, a, b⟩)) : Calls Try.prog 53 #[.slice A 1 c] w fun e w' => e = .returned (.slice none 0 0) ∧ Below w.heap.size w w' := by
  have A0 : Below w.heap.size w w := Below.refl _ _
  have HR := Lib.hid (r6_right A 1 c (fun _ => ⟨2, a, b⟩) w h)
  rw [rt_one hm rfl] at HR
  have HN := Lib.hid (fun w => r6_needs 2 a b w)
  rw [show n2V 2 = 0 from rfl] at HN
  have HT := Lib.hid h
  clear h hm
  go_enter Try.func53, Try.ntmps53
  go_wp2_with (fail)
  refine HR.out.mono ?_
  rintro e w1 ⟨rfl, hb⟩
  have A1 := below_call A0 hb
  obtain ⟨g, off, rfl, hl, hc⟩ := (HT.out.below hb).2 (by omega)
  have c0 : w1.cell? ⟨g, off, none⟩ = some (.int .i64 2) := (hc 0 (by omega)).1
  have c1 : w1.cell? ⟨g, off + 1, none⟩ = some (.int .i64 a) := (hc 0 (by omega)).2.1
  have c2 : w1.cell? ⟨g, off + 2, none⟩ = some (.int .i64 b) := (hc 0 (by omega)).2.2
  clear hb hc A0 HT HR
  go_wp2_with (fail)
  refine (HN.out _).mono ?_
  rintro e w2 ⟨rfl, hb⟩
  have A2 := below_call A1 hb
  clear hb c0 c1 c2 A1
  go_wp2
  all_goals go_ret
  all_goals exact ⟨rfl, A2⟩

/-- What a tick has told, as it lies. -/
theorem outs_one {w : World} {B : Option Addr} {o : Ou} (h : Outs w B 1 (fun _ => o)) : ∃ g off, B = some ⟨g, off, none⟩ ∧ g < w.heap.size ∧ w.cell? ⟨g, off, none⟩ = some (.int .i64 o.tick) ∧ w.cell? ⟨g, off + 1, none⟩ = some (.int .i64 o.mode) ∧ w.cell? ⟨g, off + 2, none⟩ = some (.int .i64 o.latch) ∧ w.cell? ⟨g, off + 3, none⟩ = some (.int .i64 o.notes) ∧ w.cell? ⟨g, off + 4, none⟩ = some (.int .i64 o.level) ∧ w.cell? ⟨g, off + 5, none⟩ = some (.int .i64 o.buzzer) ∧ w.cell? ⟨g, off + 6, none⟩ = some (.int .i64 o.opn) ∧ w.cell? ⟨g, off + 7, none⟩ = some (.int .i64 o.pos) ∧ w.cell? ⟨g, off + 8, none⟩ = some (.int .i64 o.volume) ∧ w.cell? ⟨g, off + 9, none⟩ = some (.bool o.drop) ∧ w.cell? ⟨g, off + 10, none⟩ = some (.string o.frame) := by
  obtain ⟨g, off, rfl, hl, hc⟩ := h (by omega)
  exact ⟨g, off, rfl, hl, hc 0 (by omega) 0 (by omega), hc 0 (by omega) 1 (by omega), hc 0 (by omega) 2 (by omega), hc 0 (by omega) 3 (by omega), hc 0 (by omega) 4 (by omega), hc 0 (by omega) 5 (by omega), hc 0 (by omega) 6 (by omega), hc 0 (by omega) 7 (by omega), hc 0 (by omega) 8 (by omega), hc 0 (by omega) 9 (by omega), hc 0 (by omega) 10 (by omega)⟩
set_option maxHeartbeats 4000000 in
theorem r7_one (B : Option Addr) (d : Nat) (a b : Int) (o : Ou) (w : World) (h : Outs w B 1 (fun _ => o)) : Calls Try.prog 54 #[.agg #[.int .i64 2, .int .i64 a, .int .i64 b], .slice none 0 0, .slice B 1 d, .int .i64 0] w fun e w' => e = .returned (.bool (alB ⟨2, a, b⟩ o)) ∧ Below w.heap.size w w' := by
  have A0 : Below w.heap.size w w := Below.refl _ _
  have HA := Lib.hid (fun w => r7_atom a b o w)
  generalize alB ⟨2, a, b⟩ o = v at *
  unfold Ou.cells at HA
  go_enter Try.func54, Try.ntmps54
  go_upto_region 15 with (fail)
  refine at_world (fun W => Below w.heap.size w W ∧ Outs W B 1 (fun _ => o) ∧ Box W w.heap.size #[.int .i64 2, .int .i64 a, .int .i64 b]) ⟨by (repeat (first | (with_reducible exact Below.refl _ _) | (with_reducible assumption) | (with_reducible refine Near.up _ ?_) | (with_reducible refine Below.drew ?_) | (with_reducible refine below_alloc_on ?_ _) | (with_reducible refine below_set_on ?_ (by first | (simp; done) | (simp; omega) | omega) _))), h.below (below_alloc_on (Below.refl _ _) _), box_new _ _ _⟩ ?_
  obtain ⟨pb, hpb⟩ : ∃ pb, w.heap.size = pb := ⟨_, rfl⟩
  simp only [hpb]
  clear h A0
  rintro w1 ⟨A1, O1, BX⟩
  obtain ⟨y0, y1, y2, yf, yl⟩ := BX.three
  obtain ⟨g, off, rfl, hl, x0, x1, x2, x3, x4, x5, x6, x7, x8, x9, x10⟩ := outs_one O1
  refine wp_region_calm (by kernel_rfl) (by kernel_rfl) ?_
  repeat (go_big_quiet_step (((go_at_call 67; exact calm_of _ (HA.out _)))))
  refine wpQuiet_nil ?_
  intro _ hw'
  obtain ⟨u, rfl⟩ := hw'
  rw [← hpb] at A1
  go_wp2
  all_goals go_ret
  all_goals exact ⟨rfl, below_call A1 u.below⟩

set_option maxHeartbeats 4000000 in
theorem r7_all_one (A B : Option Addr) (c d : Nat) (a b : Int) (hm : myB ⟨2, a, b⟩ = true) (o : Ou) (w : World) (h : Terms w A 1 (fun _ => ⟨2, a, b⟩)) (ho : Outs w B 1 (fun _ => o)) :
    Calls Try.prog 29 #[.slice A 1 c, .slice B 1 d] w fun e w' => ∃ C f, e = .returned (.slice C 1 f) ∧ Truths w' C 1 [alB ⟨2, a, b⟩ o] ∧ Below w.heap.size w w' := by
  have A0 : Below w.heap.size w w := Below.refl _ _
  have HP := Lib.hid (r6_parts_one A c a b hm w h)
  have HO := Lib.hid (fun W (hb : Below w.heap.size w W) => r7_one B d a b o W (ho.below hb))
  have HT := Lib.hid h
  generalize alB ⟨2, a, b⟩ o = v at *
  clear h ho hm
  go_enter Try.func29, Try.ntmps29
  go_wp2_with (fail)
  refine HP.out.mono ?_
  rintro e w1 ⟨rfl, hb⟩
  have A1 := below_call A0 hb
  have HT1 := Lib.hid (HT.out.below hb)
  clear hb A0 HP HT
  go_wp2
  go_loopg [6, 14] 0 (fun gk x i wr => gk = 0 ∧ x = .slice none 0 0 ∧ i = .int .i64 0 ∧ wr = w1)
  case atStart => exact ⟨rfl, rfl, rfl, rfl⟩
  case round =>
    obtain ⟨rfl, rfl, rfl, rfl⟩ := hrel
    go_wp2
    go_loopg [8, 29] 1 (fun gk x i wq => (gk = 1 ∧ i = .int .i64 0 ∧ x = .slice none 0 0 ∧ wq = wr) ∨ (gk = 0 ∧ i = .int .i64 1 ∧ ∃ W, Below w.heap.size w W ∧ GrownT W [v] x wq))
    case atStart => exact .inl ⟨rfl, rfl, rfl, rfl⟩
    case round =>
      rcases hrel with ⟨rfl, rfl, rfl, rfl⟩ | ⟨rfl, rfl, W, AW, G⟩
      · obtain ⟨g, off, rfl, hl, hc⟩ := HT1.out.2 (by omega)
        have c0 : wr.cell? ⟨g, off, none⟩ = some (.int .i64 2) := (hc 0 (by omega)).1
        have c1 : wr.cell? ⟨g, off + 1, none⟩ = some (.int .i64 a) := (hc 0 (by omega)).2.1
        have c2 : wr.cell? ⟨g, off + 2, none⟩ = some (.int .i64 b) := (hc 0 (by omega)).2.2
        clear hc
        go_wp2_with (fail)
        refine (HO.out _ A1).mono ?_
        rintro e w2 ⟨rfl, hb⟩
        have A2 := below_call A1 hb
        have GN := GrownT.nil w2
        have HG := Lib.hid GN.2.1
        have HGN := Lib.hid GN
        clear hb c0 c1 c2 GN HT1 HO A1
        go_wp2_with (at_builtin; refine app_truth rfl _ _ rfl v rfl rfl HG.out (Nat.le_refl _) (by decide) ?_)
        intro v' w3 h1 h2
        have G3 := Lib.hid (HGN.out.next h1 h2)
        clear h1 h2 HG HGN
        go_wp2
        go_roundg 0
        case measure => omega
        case rel => exact .inr ⟨rfl, by go_num, w2, A2, G3.out⟩
      · obtain ⟨C, f, rfl, hf, ht⟩ := G.form
        have A3 := below_call AW G.2.2
        have HC := Lib.hid ht
        clear G ht
        go_wp2
        all_goals go_ret
        all_goals exact ⟨C, f, rfl, HC.out, A3⟩

set_option maxHeartbeats 2000000 in
theorem r7_holds_one (A B : Option Addr) (c d : Nat) (a b : Int) (hm : myB ⟨2, a, b⟩ = true) (o : Ou) (w : World) (h : Terms w A 1 (fun _ => ⟨2, a, b⟩)) (ho : Outs w B 1 (fun _ => o)) :
    Calls Try.prog 14 #[.slice A 1 c, .slice B 1 d, .int .i64 0] w fun e w' => e = .returned (.bool (alB ⟨2, a, b⟩ o)) ∧ Below w.heap.size w w' := by
  have A0 : Below w.heap.size w w := Below.refl _ _
  have HR := Lib.hid (r6_right A 1 c (fun _ => ⟨2, a, b⟩) w h)
  rw [rt_one hm rfl] at HR
  have HL := Lib.hid (fun W (hb : Below w.heap.size w W) => r7_all_one A B c d a b hm o W (h.below hb) (ho.below hb))
  generalize alB ⟨2, a, b⟩ o = v at *
  clear h ho hm
  go_enter Try.func14, Try.ntmps14
  go_wp2_with (fail)
  refine HR.out.mono ?_
  rintro e w1 ⟨rfl, hb⟩
  have A1 := below_call A0 hb
  clear hb A0 HR
  go_wp2_with (fail)
  refine (HL.out _ A1).mono ?_
  rintro e w2 ⟨C, f, rfl, ht, hb⟩
  have A2 := below_call A1 hb
  obtain ⟨g, off, rfl, hl, hc⟩ := ht.2 (by omega)
  have c0 : w2.cell? ⟨g, off, none⟩ = some (.bool v) := hc 0 (by omega)
  clear hb hc A1 ht HL
  go_wp2
  all_goals go_ret
  all_goals exact ⟨rfl, A2⟩
end Go.Proofs.Ytngmggccijmhfaa
