/- Contracts of the document's monitor: Step. -/
import Derived.Test.YtngmggccijmhfaaRef58E
namespace Go.Proofs.Ytngmggccijmhfaa
open Go.RowKit
set_option linter.unusedVariables false
set_option linter.unusedSimpArgs false
set_option maxRecDepth 100000
attribute [local go_sem] cell_set_ite Near.cell Near.frozen

theorem skL_len (ts : Nat → Tm) (ks : List Int) (o : Ou) (k : Nat) : (skL ts ks o k).length = rdN ts k := by simp [skL]
theorem skL_at (ts : Nat → Tm) (ks : List Int) (o : Ou) {k i : Nat} (h : i < rdN ts k) : (skL ts ks o k).getD i false = skF ts ks o k i := by simp [skL, List.getD, h]
set_option maxHeartbeats 8000000 in
theorem r8_step (A : Option Addr) (n c : Nat) (ts : Nat → Tm) (K : Option Addr) (d : Nat) (ks : List Int) (o : Ou) (w : World) (h : Terms w A n ts) (hk : Ints w K n ks) (hkp : ∀ i, i < n → -1 ≤ ks.getD i 0 ∧ ks.getD i 0 ≤ 1001) (hr : rtB ts n = true) :
    Calls Try.prog 22 #[.slice A n c, .slice K n d, .agg o.cells] w fun e w' => ∃ B f, e = .returned (.tuple #[.slice B n f, .bool (skF ts ks o n 0)]) ∧ w'.ownsRow w.heap.size 3 1 (.slice B n f) n ((nxL ts ks o n).map (Value.int .i64)) ∧ Below w.heap.size w w' := by
  have hr1 : n ≤ 40 ∧ okB ts n = true ∧ rdN ts n = 1 := by
    have hr2 := hr
    unfold rtB at hr2
    simpa using hr2
  obtain ⟨hn40, hok, hrd⟩ := hr1
  have HOK := Lib.hid (fun k (h : k < n) => ok_at ts h hok)
  have HRD := Lib.hid hrd
  have n1 : 1 ≤ n := by have := rdN_le ts n; omega
  have A0 : Below w.heap.size w w := Below.refl _ _
  have HR := Lib.hid (fun w' (hb : Below w.heap.size w w') => r6_right A n c ts w' (h.below hb))
  rw [hr] at HR
  have HI := Lib.hid h
  have HK := Lib.hid hk
  have HKP := Lib.hid hkp
  clear h hk hkp hr hok hrd
  unfold Ou.cells
  go_enter Try.func22, Try.ntmps22
  go_wp2_with (fail)
  have BO := box_new w #[.int .i64 o.tick, .int .i64 o.mode, .int .i64 o.latch, .int .i64 o.notes, .int .i64 o.level, .int .i64 o.buzzer, .int .i64 o.opn, .int .i64 o.pos, .int .i64 o.volume, .bool o.drop, .string o.frame] 29
  refine (HR.out _ (by (repeat (first | (with_reducible exact Below.refl _ _) | (with_reducible assumption) | (with_reducible refine Near.up _ ?_) | (with_reducible refine Below.drew ?_) | (with_reducible refine below_alloc_on ?_ _) | (with_reducible refine below_set_on ?_ (by first | (simp; done) | (simp; omega) | omega) _))))).mono ?_
  rintro e w1 ⟨rfl, hb⟩
  have A1 : Below w.heap.size w w1 := below_call (by (repeat (first | (with_reducible exact Below.refl _ _) | (with_reducible assumption) | (with_reducible refine Near.up _ ?_) | (with_reducible refine Below.drew ?_) | (with_reducible refine below_alloc_on ?_ _) | (with_reducible refine below_set_on ?_ (by first | (simp; done) | (simp; omega) | omega) _)))) hb
  have BO1 := BO.below hb
  obtain ⟨ob, hob⟩ : ∃ ob, w.heap.size = ob := ⟨_, rfl⟩
  rw [hob] at BO1
  clear hb BO A0 HR
  have HI1 := Lib.hid (HI.out.below A1)
  have HK1 := Lib.hid (HK.out.below A1)
  have HBO := Lib.hid BO1
  clear BO1 HI HK
  go_wp2
  clear hob
  go_loopg [8, 9, 28] n (fun gk x y i wr => ∃ k : Nat, k ≤ n ∧ gk = n - k ∧ i = .int .i64 k ∧ Two w1 wr y x (nxL ts ks o k) (rdN ts k) (skL ts ks o k))
  case atStart => exact ⟨0, by omega, rfl, rfl, Two.nil w1⟩
  case round =>
    obtain ⟨k, hkn, rfl, rfl, tw⟩ := hrel
    by_cases hlt : k < n
    · obtain ⟨hmy, hnd⟩ := HOK.out k hlt
      obtain ⟨k0, k1⟩ := HKP.out k hlt
      have hrl := rdN_le ts k
      have hnl := nd_le (ts k).op
      have hbd := HI1.out.1 k hlt
      have hN : rdN ts (k + 1) = rdN ts k + 1 - ndN (ts k).op := rfl
      obtain ⟨B, f, hB, hle⟩ := own_formT tw.b
      subst hB
      have HNL := Lib.hid (nxL_next ts ks o k)
      have hll : (nxL ts ks o k).length ≤ 17592186044414 := by rw [nxL_len]; omega
      have HN := Lib.hid (fun w => r8_needs (ts k).op w)
      have HT := Lib.hid (Truths.of_own tw.b (skL_len ts ks o k))
      obtain ⟨b, off, rfl, hbs, hcell⟩ := (HI1.out.below tw.bel).2 (by omega)
      have c0 := (hcell k hlt).1
      have HTC := Lib.hid (hcell k hlt)
      obtain ⟨kb, ko, rfl, hks, hkc⟩ := (HK1.out.below tw.bel).2 (by omega)
      have HKC := Lib.hid (hkc k hlt)
      have HTW := Lib.hid tw
      have hways : ndN (ts k).op = 0 ∨ ndN (ts k).op = 1 ∨ ndN (ts k).op = 2 := by omega
      clear hcell hkc tw
      rcases hways with e0 | e0 | e0
      · obtain ⟨q, hq⟩ : ∃ q, rdN ts k = q := ⟨_, rfl⟩
        have TW := Lib.hid (HTW.out.cut (j := q) (by omega))
        obtain ⟨HS, HV⟩ := sk_next ts ks o k hmy hnd (q := q) (by omega) (a := false) (b := false) (fun h => by omega) (fun h => by omega)
        have HSS := Lib.hid HS
        have HVV := Lib.hid HV
        have HNN := Lib.hid (show rdN ts (k + 1) = q + 1 by omega)
        have HP := Lib.hid (fun w => r8_part (ts k).op (ts k).a (ts k).b hbd hmy (ks.getD k 0) k0 k1 o false false w)
        rw [show (⟨(ts k).op, (ts k).a, (ts k).b⟩ : Tm) = ts k from rfl] at HP
        unfold Ou.cells at HP
        have hqn : q ≤ 17592186044414 := by omega
        clear HS HV hN hmy hnd hrl hnl
        rw [e0] at HN
        rw [hq]
        clear hq e0
        go_upto_region 17 with (go_at_call 34; refine (HN.out _).mono ?_; rintro e w' ⟨rfl, rfl⟩)
        refine at_world (fun W => Two w1 W u9 (.slice B q f) (nxL ts ks o k) q ((skL ts ks o k).take q) ∧ b < W.heap.size ∧ kb < W.heap.size ∧ (W.cell? ⟨b, off + k * 3, none⟩ = some (.int .i64 (ts k).op) ∧ W.cell? ⟨b, off + k * 3 + 1, none⟩ = some (.int .i64 (ts k).a) ∧ W.cell? ⟨b, off + k * 3 + 2, none⟩ = some (.int .i64 (ts k).b)) ∧ W.cell? ⟨kb, ko + k, none⟩ = some (.int .i64 (ks.getD k 0)) ∧ Box W ob #[.int .i64 o.tick, .int .i64 o.mode, .int .i64 o.latch, .int .i64 o.notes, .int .i64 o.level, .int .i64 o.buzzer, .int .i64 o.opn, .int .i64 o.pos, .int .i64 o.volume, .bool o.drop, .string o.frame]) (⟨TW.out, hbs, hks, HTC.out, HKC.out, HBO.out.below TW.out.bel⟩) ?_
        clear HTW HT HTC HKC hbs hks TW HN
        rintro w2 ⟨TW, lb, lk, ⟨c0, c1, c2⟩, ck, BX⟩
        obtain ⟨lX, cX, fX⟩ := id BX
        have x0 : w2.cell? ⟨ob, 0, none⟩ = some (.int .i64 o.tick) := cX 0
        have x1 : w2.cell? ⟨ob, 1, none⟩ = some (.int .i64 o.mode) := cX 1
        have x2 : w2.cell? ⟨ob, 2, none⟩ = some (.int .i64 o.latch) := cX 2
        have x3 : w2.cell? ⟨ob, 3, none⟩ = some (.int .i64 o.notes) := cX 3
        have x4 : w2.cell? ⟨ob, 4, none⟩ = some (.int .i64 o.level) := cX 4
        have x5 : w2.cell? ⟨ob, 5, none⟩ = some (.int .i64 o.buzzer) := cX 5
        have x6 : w2.cell? ⟨ob, 6, none⟩ = some (.int .i64 o.opn) := cX 6
        have x7 : w2.cell? ⟨ob, 7, none⟩ = some (.int .i64 o.pos) := cX 7
        have x8 : w2.cell? ⟨ob, 8, none⟩ = some (.int .i64 o.volume) := cX 8
        have x9 : w2.cell? ⟨ob, 9, none⟩ = some (.bool o.drop) := cX 9
        have x10 : w2.cell? ⟨ob, 10, none⟩ = some (.string o.frame) := cX 10
        generalize paB (ts k) o false false (ks.getD k 0) = v at *
        generalize paV (ts k) false false (ks.getD k 0) = z at *
        generalize ks.getD k 0 = kk at *
        generalize (ts k).op = op at *
        generalize (ts k).a = ta at *
        generalize (ts k).b = tb at *
        generalize (skL ts ks o k).take q = S at *
        generalize nxL ts ks o k = L at *
        refine wp_region_calm (by kernel_rfl) (by kernel_rfl) ?_
        repeat (go_big_quiet_step (((go_at_call 35; exact calm_of _ (HP.out _)))))
        refine wpQuiet_nil ?_
        intro _ hw'
        obtain ⟨u, rfl⟩ := hw'
        have TW3 := Lib.hid (TW.below u.below)
        clear TW c0 c1 c2 ck BX lX cX fX lb lk x0 x1 x2 x3 x4 x5 x6 x7 x8 x9 x10 HP
        generalize u.at_ = w3 at *
        have hsz := TW3.out.bel.size
        go_wp2_with (at_builtin; refine app_truth_at rfl _ _ rfl v rfl rfl TW3.out.b hsz hqn ?_)
        intro y1 w4 h1 h2 h3
        have TW4 := Lib.hid (TW3.out.b_next h1 h2 h3)
        have hsz1 := TW4.out.bel.size
        clear h1 h2 h3 TW3 hsz
        go_wp2_with (at_builtin; refine app_int_at rfl _ _ rfl z rfl rfl TW4.out.a hsz1 hll ?_)
        intro y2 w5 h1 h2 h3
        have TW5 := Lib.hid (TW4.out.a_next h1 h2 h3)
        clear h1 h2 h3 TW4 hsz1
        go_wp2
        go_roundg (n - (k + 1))
        case measure => omega
        case rel => exact ⟨k + 1, by omega, by omega, by go_num, by rw [HNL.out, HSS.out, HNN.out, HVV.out]; exact TW5.out⟩
      · obtain ⟨q, hq⟩ : ∃ q, rdN ts k = q + 1 := ⟨rdN ts k - 1, by omega⟩
        obtain ⟨a, ha⟩ : ∃ a, skF ts ks o k q = a := ⟨_, rfl⟩
        have TW := Lib.hid (HTW.out.cut (j := q) (by omega))
        obtain ⟨HS, HV⟩ := sk_next ts ks o k hmy hnd (q := q) (by omega) (a := a) (b := false) (fun _ => ha.symm) (fun h => by omega)
        have HSS := Lib.hid HS
        have HVV := Lib.hid HV
        have HNN := Lib.hid (show rdN ts (k + 1) = q + 1 by omega)
        have HP := Lib.hid (fun w => r8_part (ts k).op (ts k).a (ts k).b hbd hmy (ks.getD k 0) k0 k1 o a false w)
        rw [show (⟨(ts k).op, (ts k).a, (ts k).b⟩ : Tm) = ts k from rfl] at HP
        unfold Ou.cells at HP
        have hqn : q ≤ 17592186044414 := by omega
        clear HS HV hN hmy hnd hrl hnl
        obtain ⟨sb, so, rfl, hsb, hsc⟩ := HT.out.at_ (i := q) (by omega)
        rw [skL_at ts ks o (by omega), ha] at hsc
        rw [e0] at HN
        rw [hq]
        have le1 : (q : Int) ≤ (f : Int) := by omega
        clear hq e0 ha
        have tc : ((q + 1 : Nat) : Int) = (q : Int) + 1 := rfl
        have wq : IntKind.i64.wrap ((q : Int) + 1 - 1) = (q : Int) := by rw [IntKind.wrap_i64]; omega
        have wq0 : IntKind.i64.wrap (q : Int) = (q : Int) := by rw [IntKind.wrap_i64]; omega
        have lt1 : (q : Int) < (q : Int) + 1 := by omega
        go_upto_region 17 with (go_at_call 34; refine (HN.out _).mono ?_; rintro e w' ⟨rfl, rfl⟩)
        refine at_world (fun W => Two w1 W u9 (.slice (some ⟨sb, so, none⟩) q f) (nxL ts ks o k) q ((skL ts ks o k).take q) ∧ b < W.heap.size ∧ kb < W.heap.size ∧ (W.cell? ⟨b, off + k * 3, none⟩ = some (.int .i64 (ts k).op) ∧ W.cell? ⟨b, off + k * 3 + 1, none⟩ = some (.int .i64 (ts k).a) ∧ W.cell? ⟨b, off + k * 3 + 2, none⟩ = some (.int .i64 (ts k).b)) ∧ W.cell? ⟨kb, ko + k, none⟩ = some (.int .i64 (ks.getD k 0)) ∧ Box W ob #[.int .i64 o.tick, .int .i64 o.mode, .int .i64 o.latch, .int .i64 o.notes, .int .i64 o.level, .int .i64 o.buzzer, .int .i64 o.opn, .int .i64 o.pos, .int .i64 o.volume, .bool o.drop, .string o.frame]) (⟨TW.out, hbs, hks, HTC.out, HKC.out, HBO.out.below TW.out.bel⟩) ?_
        clear HTW HT HTC HKC hbs hks TW HN hsb hsc
        rintro w2 ⟨TW, lb, lk, ⟨c0, c1, c2⟩, ck, BX⟩
        obtain ⟨lX, cX, fX⟩ := id BX
        have x0 : w2.cell? ⟨ob, 0, none⟩ = some (.int .i64 o.tick) := cX 0
        have x1 : w2.cell? ⟨ob, 1, none⟩ = some (.int .i64 o.mode) := cX 1
        have x2 : w2.cell? ⟨ob, 2, none⟩ = some (.int .i64 o.latch) := cX 2
        have x3 : w2.cell? ⟨ob, 3, none⟩ = some (.int .i64 o.notes) := cX 3
        have x4 : w2.cell? ⟨ob, 4, none⟩ = some (.int .i64 o.level) := cX 4
        have x5 : w2.cell? ⟨ob, 5, none⟩ = some (.int .i64 o.buzzer) := cX 5
        have x6 : w2.cell? ⟨ob, 6, none⟩ = some (.int .i64 o.opn) := cX 6
        have x7 : w2.cell? ⟨ob, 7, none⟩ = some (.int .i64 o.pos) := cX 7
        have x8 : w2.cell? ⟨ob, 8, none⟩ = some (.int .i64 o.volume) := cX 8
        have x9 : w2.cell? ⟨ob, 9, none⟩ = some (.bool o.drop) := cX 9
        have x10 : w2.cell? ⟨ob, 10, none⟩ = some (.string o.frame) := cX 10
        generalize paB (ts k) o a false (ks.getD k 0) = v at *
        generalize paV (ts k) a false (ks.getD k 0) = z at *
        generalize ks.getD k 0 = kk at *
        generalize (ts k).op = op at *
        generalize (ts k).a = ta at *
        generalize (ts k).b = tb at *
        generalize (skL ts ks o k).take q = S at *
        generalize nxL ts ks o k = L at *
        refine wp_region_calm (by kernel_rfl) (by kernel_rfl) ?_
        repeat (go_big_quiet_step (((go_at_call 35; exact calm_of _ (HP.out _)))))
        refine wpQuiet_nil ?_
        intro _ hw'
        obtain ⟨u, rfl⟩ := hw'
        have TW3 := Lib.hid (TW.below u.below)
        clear TW c0 c1 c2 ck BX lX cX fX lb lk x0 x1 x2 x3 x4 x5 x6 x7 x8 x9 x10 HP
        generalize u.at_ = w3 at *
        have hsz := TW3.out.bel.size
        go_wp2_with (at_builtin; refine app_truth_at rfl _ _ rfl v rfl rfl TW3.out.b hsz hqn ?_)
        intro y1 w4 h1 h2 h3
        have TW4 := Lib.hid (TW3.out.b_next h1 h2 h3)
        have hsz1 := TW4.out.bel.size
        clear h1 h2 h3 TW3 hsz
        go_wp2_with (at_builtin; refine app_int_at rfl _ _ rfl z rfl rfl TW4.out.a hsz1 hll ?_)
        intro y2 w5 h1 h2 h3
        have TW5 := Lib.hid (TW4.out.a_next h1 h2 h3)
        clear h1 h2 h3 TW4 hsz1
        go_wp2
        go_roundg (n - (k + 1))
        case measure => omega
        case rel => exact ⟨k + 1, by omega, by omega, by go_num, by rw [HNL.out, HSS.out, HNN.out, HVV.out]; exact TW5.out⟩
      · obtain ⟨q, hq⟩ : ∃ q, rdN ts k = q + 1 + 1 := ⟨rdN ts k - 2, by omega⟩
        obtain ⟨a, ha⟩ : ∃ a, skF ts ks o k q = a := ⟨_, rfl⟩
        obtain ⟨a2, ha2⟩ : ∃ a2, skF ts ks o k (q + 1) = a2 := ⟨_, rfl⟩
        have TW := Lib.hid (HTW.out.cut (j := q) (by omega))
        obtain ⟨HS, HV⟩ := sk_next ts ks o k hmy hnd (q := q) (by omega) (a := a) (b := a2) (fun _ => ha.symm) (fun _ => ha2.symm)
        have HSS := Lib.hid HS
        have HVV := Lib.hid HV
        have HNN := Lib.hid (show rdN ts (k + 1) = q + 1 by omega)
        have HP := Lib.hid (fun w => r8_part (ts k).op (ts k).a (ts k).b hbd hmy (ks.getD k 0) k0 k1 o a a2 w)
        rw [show (⟨(ts k).op, (ts k).a, (ts k).b⟩ : Tm) = ts k from rfl] at HP
        unfold Ou.cells at HP
        have hqn : q ≤ 17592186044414 := by omega
        clear HS HV hN hmy hnd hrl hnl
        obtain ⟨sb, so, hsB, hsb, hscc⟩ := HT.out.2 (by omega)
        subst hsB
        have hsc := hscc q (by omega)
        have hsc1 := hscc (q + 1) (by omega)
        rw [skL_at ts ks o (by omega), ha] at hsc
        rw [skL_at ts ks o (by omega), ha2] at hsc1
        rw [e0] at HN
        rw [hq]
        have le1 : (q : Int) ≤ (f : Int) := by omega
        clear hq e0 ha ha2 hscc
        have tc : ((q + 1 + 1 : Nat) : Int) = (q : Int) + 1 + 1 := rfl
        have wq : IntKind.i64.wrap ((q : Int) + 1 + 1 - 1) = (q : Int) + 1 := by rw [IntKind.wrap_i64]; omega
        have wq3 : IntKind.i64.wrap ((q : Int) + 1) = (q : Int) + 1 := by rw [IntKind.wrap_i64]; omega
        have wq2 : IntKind.i64.wrap ((q : Int) + 1 + 1 - 2) = (q : Int) := by rw [IntKind.wrap_i64]; omega
        have wq0 : IntKind.i64.wrap (q : Int) = (q : Int) := by rw [IntKind.wrap_i64]; omega
        have lt0 : (q : Int) < (q : Int) + 1 + 1 := by omega
        have lt1 : (q : Int) + 1 < (q : Int) + 1 + 1 := by omega
        have lt2 : (0 : Int) ≤ (q : Int) + 1 := by omega
        go_upto_region 15 with (go_at_call 34; refine (HN.out _).mono ?_; rintro e w' ⟨rfl, rfl⟩)
        refine wp_region_calm (by kernel_rfl) (by kernel_rfl) ?_
        repeat (go_big_quiet_step ((fail)))
        refine wpQuiet_nil ?_
        intro _ hw'
        obtain ⟨u, rfl⟩ := hw'
        have NU := Lib.hid u.below
        go_upto_region 17 with (fail)
        refine at_world (fun W => Two w1 W u9 (.slice (some ⟨sb, so, none⟩) q f) (nxL ts ks o k) q ((skL ts ks o k).take q) ∧ b < W.heap.size ∧ kb < W.heap.size ∧ (W.cell? ⟨b, off + k * 3, none⟩ = some (.int .i64 (ts k).op) ∧ W.cell? ⟨b, off + k * 3 + 1, none⟩ = some (.int .i64 (ts k).a) ∧ W.cell? ⟨b, off + k * 3 + 2, none⟩ = some (.int .i64 (ts k).b)) ∧ W.cell? ⟨kb, ko + k, none⟩ = some (.int .i64 (ks.getD k 0)) ∧ Box W ob #[.int .i64 o.tick, .int .i64 o.mode, .int .i64 o.latch, .int .i64 o.notes, .int .i64 o.level, .int .i64 o.buzzer, .int .i64 o.opn, .int .i64 o.pos, .int .i64 o.volume, .bool o.drop, .string o.frame]) (⟨TW.out.below NU.out, Nat.lt_of_lt_of_le hbs NU.out.size, Nat.lt_of_lt_of_le hks NU.out.size, ⟨(NU.out.cell (p := ⟨b, off + k * 3, none⟩) hbs).trans HTC.out.1, (NU.out.cell (p := ⟨b, off + k * 3 + 1, none⟩) hbs).trans HTC.out.2.1, (NU.out.cell (p := ⟨b, off + k * 3 + 2, none⟩) hbs).trans HTC.out.2.2⟩, (NU.out.cell (p := ⟨kb, ko + k, none⟩) hks).trans HKC.out, (HBO.out.below TW.out.bel).below NU.out⟩) ?_
        clear HTW HT HTC HKC hbs hks TW HN hsb hsc hsc1 NU
        rintro w2 ⟨TW, lb, lk, ⟨c0, c1, c2⟩, ck, BX⟩
        obtain ⟨lX, cX, fX⟩ := id BX
        have x0 : w2.cell? ⟨ob, 0, none⟩ = some (.int .i64 o.tick) := cX 0
        have x1 : w2.cell? ⟨ob, 1, none⟩ = some (.int .i64 o.mode) := cX 1
        have x2 : w2.cell? ⟨ob, 2, none⟩ = some (.int .i64 o.latch) := cX 2
        have x3 : w2.cell? ⟨ob, 3, none⟩ = some (.int .i64 o.notes) := cX 3
        have x4 : w2.cell? ⟨ob, 4, none⟩ = some (.int .i64 o.level) := cX 4
        have x5 : w2.cell? ⟨ob, 5, none⟩ = some (.int .i64 o.buzzer) := cX 5
        have x6 : w2.cell? ⟨ob, 6, none⟩ = some (.int .i64 o.opn) := cX 6
        have x7 : w2.cell? ⟨ob, 7, none⟩ = some (.int .i64 o.pos) := cX 7
        have x8 : w2.cell? ⟨ob, 8, none⟩ = some (.int .i64 o.volume) := cX 8
        have x9 : w2.cell? ⟨ob, 9, none⟩ = some (.bool o.drop) := cX 9
        have x10 : w2.cell? ⟨ob, 10, none⟩ = some (.string o.frame) := cX 10
        generalize paB (ts k) o a a2 (ks.getD k 0) = v at *
        generalize paV (ts k) a a2 (ks.getD k 0) = z at *
        generalize ks.getD k 0 = kk at *
        generalize (ts k).op = op at *
        generalize (ts k).a = ta at *
        generalize (ts k).b = tb at *
        generalize (skL ts ks o k).take q = S at *
        generalize nxL ts ks o k = L at *
        refine wp_region_calm (by kernel_rfl) (by kernel_rfl) ?_
        repeat (go_big_quiet_step (((go_at_call 35; exact calm_of _ (HP.out _)))))
        refine wpQuiet_nil ?_
        intro _ hw'
        obtain ⟨u, rfl⟩ := hw'
        have TW3 := Lib.hid (TW.below u.below)
        clear TW c0 c1 c2 ck BX lX cX fX lb lk x0 x1 x2 x3 x4 x5 x6 x7 x8 x9 x10 HP
        generalize u.at_ = w3 at *
        have hsz := TW3.out.bel.size
        go_wp2_with (at_builtin; refine app_truth_at rfl _ _ rfl v rfl rfl TW3.out.b hsz hqn ?_)
        intro y1 w4 h1 h2 h3
        have TW4 := Lib.hid (TW3.out.b_next h1 h2 h3)
        have hsz1 := TW4.out.bel.size
        clear h1 h2 h3 TW3 hsz
        go_wp2_with (at_builtin; refine app_int_at rfl _ _ rfl z rfl rfl TW4.out.a hsz1 hll ?_)
        intro y2 w5 h1 h2 h3
        have TW5 := Lib.hid (TW4.out.a_next h1 h2 h3)
        clear h1 h2 h3 TW4 hsz1
        go_wp2
        go_roundg (n - (k + 1))
        case measure => omega
        case rel => exact ⟨k + 1, by omega, by omega, by go_num, by rw [HNL.out, HSS.out, HNN.out, HVV.out]; exact TW5.out⟩
    · obtain rfl : k = n := by omega
      have ha := tw.a
      have hbb := tw.b
      have hbel := tw.bel
      rw [nxL_len] at ha
      obtain ⟨P, e1, hP, hle⟩ := own_form ha
      obtain ⟨Q, e2, hQ, hle2⟩ := own_formT hbb
      subst hP hQ
      have HX := Lib.hid (own_base ha A1.size)
      have hT := Truths.of_own hbb (skL_len ts ks o k)
      have hrd := HRD.out
      obtain ⟨sb, so, rfl, hsb, hsc⟩ := hT.at_ (i := 0) (by omega)
      rw [skL_at ts ks o (by omega), Nat.add_zero] at hsc
      obtain ⟨v, hv⟩ : ∃ v, skF ts ks o k 0 = v := ⟨_, rfl⟩
      rw [hv] at hsc
      have HVV := Lib.hid hv
      have A2 := below_call A1 hbel
      rw [hrd]
      clear ha hbb tw hbel hT hv
      go_wp2_with (fail)
      refine wp_region_calm (by kernel_rfl) (by kernel_rfl) ?_
      repeat (go_big_quiet_step ((fail)))
      refine wpQuiet_nil ?_
      intro _ hw'
      obtain ⟨u, rfl⟩ := hw'
      have A3 := below_call A2 u.below
      have HX2 := Lib.hid (own_below HX.out u.below)
      clear A2 HX hsc
      go_wp2
      exact bodyPost_ret (v := .tuple #[.slice P k e1, .bool v]) (by simp [results, Try.results22, go_sem]) rfl ⟨P, e1, by rw [HVV.out], HX2.out, A3⟩
end Go.Proofs.Ytngmggccijmhfaa
