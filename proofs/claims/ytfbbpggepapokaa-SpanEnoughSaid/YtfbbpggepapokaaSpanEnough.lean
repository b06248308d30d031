/- SpanEnough holds of every list of steps, any width and any limit: a list that keeps one more than the limit tells of all times that were. No condition. -/
import Derived.Test.YtfbbpggepapokaaEnough
import Derived.Test.YtfbbpggepapokaaNums
namespace Go.Proofs.Ytfbbpggepapokaa.spanEnough
open Go.ChangeShapes Go.WideShapes Go.ChangeAt Go.RowKit
set_option linter.unusedVariables false

theorem three (w : World) (x y z : Int) (P : Int → Prop) (hx : P x) (hy : P y) (hz : P z) :
    ∀ j : Nat, j < 3 → ∃ v, (w.alloc (.cells #[.int .i64 x, .int .i64 y, .int .i64 z] 3)).cell? ⟨w.heap.size, j, none⟩ = some (.int .i64 v) ∧ P v := by
  intro j hj
  match j, hj with
  | 0, _ => exact ⟨x, by rw [World.cell?_alloc_at _ _ _ _ rfl]; rfl, hx⟩
  | 1, _ => exact ⟨y, by rw [World.cell?_alloc_at _ _ _ _ rfl]; rfl, hy⟩
  | 2, _ => exact ⟨z, by rw [World.cell?_alloc_at _ _ _ _ rfl]; rfl, hz⟩

set_option maxRecDepth 100000 in
set_option maxHeartbeats 2000000 in
theorem walk (w : World) (A : Option Addr) (n c : Nat) (ss : List Int) (hi : Nums .u8 w A n ss) (hc : n ≤ c) (hr : n * 1 ≤ 140737488351232) (wx : ∀ x ∈ ss, (Lit.int .u8 x).wf = true) (wd : Int) (wwd : (Lit.int .u16 wd).wf = true)
    (lm : Int) (wlm : (Lit.int .u8 lm).wf = true) :
    Calls Try.prog 3 #[.slice A n c, .int .u16 wd, .int .u8 lm] w fun e w' => e = .returned (.bool true) ∧ Below w.heap.size w w' := by
  have hA := At.refl w
  by_cases hn : 60 < n
  · clear hi
    go_enter Try.func3, Try.ntmps3
    go_wp2_with (go_at_call 5; refine (law5_awake w _ hA).mono ?_; rintro e w' ⟨rfl, hb⟩)
    go_ret
    exact ⟨rfl, hb⟩
  · have HI := Lib.hid hi
    have HX := Lib.hid (show ∀ j : Nat, j < n → 0 ≤ ss.getD j 0 ∧ ss.getD j 0 ≤ 255 from fun j hj => by
      have hj' : j < ss.length := by have := hi.1; omega
      have h := wx (ss.getD j 0) (by simp [List.getD, List.getElem?_eq_getElem hj'])
      simp only [Lit.wf, IntKind.min, IntKind.max, IntKind.signed, IntKind.bits, Bool.and_eq_true] at h
      simpa using h)
    have a0 : 0 ≤ wd ∧ wd ≤ 65535 := by simp only [Lit.wf, IntKind.min, IntKind.max, IntKind.signed, IntKind.bits, Bool.and_eq_true] at wwd; simpa using wwd
    have b0 : 0 ≤ lm ∧ lm ≤ 255 := by simp only [Lit.wf, IntKind.min, IntKind.max, IntKind.signed, IntKind.bits, Bool.and_eq_true] at wlm; simpa using wlm
    obtain ⟨a0, a1⟩ := a0
    obtain ⟨b0, b1⟩ := b0
    obtain ⟨W, hW⟩ : ∃ W : Int, wd % 300 = W := ⟨_, rfl⟩
    obtain ⟨m, hm⟩ : ∃ m : Nat, lm % 20 = m := ⟨(lm % 20).toNat, by omega⟩
    have W0 : 0 ≤ W := by omega
    have W1 : W ≤ 299 := by omega
    have m1 : m ≤ 19 := by omega
    clear hi wx wwd wlm
    go_enter Try.func3, Try.ntmps3
    go_wp2
    clear hW hm a0 a1 b0 b1
    go_loopw [9, 10, 11, 29] (fun va vk t i wr => ∃ (k : Nat) (T : Int) (L K : List Int), k ≤ n ∧ i = .int .i64 k ∧ t = .int .i64 T ∧ 0 ≤ T ∧ T ≤ 63 * k ∧ L.length = k ∧ Enough W m L K T ∧
      wr.ownsRow w.heap.size 3 1 va L.length (L.map (Value.int .i64)) ∧ wr.ownsRow w.heap.size 3 1 vk K.length (K.map (Value.int .i64)) ∧ (vk.ownBlock = none ∨ vk.ownBlock ≠ va.ownBlock) ∧ At w wr) (fun _ _ _ i _ => n - (intOf i).toNat)
    case atStart => exact ⟨0, 0, [], [], Nat.zero_le _, rfl, rfl, by omega, by omega, rfl, Enough.nil W m, World.ownsRow_nil _ _ _ _, World.ownsRow_nil _ _ _ _, .inl rfl, hA⟩
    case round =>
      obtain ⟨k, T, L, K, hk, rfl, rfl, t0, t1, hL, hE, hoa, hok, hne, hb⟩ := hrel
      by_cases hlt : k < n
      · obtain ⟨b, off, rfl, hbs, hcell⟩ := HI.out.at_ hlt
        have hck := (hb.cell (p := ⟨b, off + k, none⟩) hbs).trans hcell
        obtain ⟨s0, s1⟩ := HX.out k hlt
        clear hcell
        generalize ss.getD k 0 = s at *
        obtain ⟨d, hd⟩ : ∃ d : Int, s % 64 = d := ⟨_, rfl⟩
        obtain ⟨f, hf⟩ : ∃ f : Int, s % 7 = f := ⟨_, rfl⟩
        have d0 : 0 ≤ d := by omega
        have d1 : d ≤ 63 := by omega
        have f0 : 0 ≤ f := by omega
        have f1 : f ≤ 6 := by omega
        obtain ⟨t', ht'⟩ : ∃ t' : Int, T + d = t' := ⟨_, rfl⟩
        have u0 : 0 ≤ t' := by omega
        have u1 : t' ≤ 63 * (k + 1) := by omega
        have hsz := hb.size
        have HE := Lib.hid (hE.next (t' := t') (by omega) u0 (by omega) W0 (by omega) (by omega))
        have hKl := hE.len
        have HOA := Lib.hid hoa
        have HOK := Lib.hid hok
        have HNE := Lib.hid hne
        obtain ⟨BA, dA, rfl, hdA⟩ := own_form hoa
        obtain ⟨BK, dK, rfl, hdK⟩ := own_form hok
        have HB := Lib.hid hb
        have LL := Lib.hid hL
        clear hE hoa hok hne hdA hb
        go_wp2_with (at_builtin; refine app_int rfl _ _ rfl t' rfl rfl HOA.out hsz (by omega) ?_)
        intro va w1 hoa hg
        have A1 : At w w1 := (HB.out.alloc hsz _).grown hg (by have := hsz; simp; omega) (fun g hg => by have := (HOA.out.lt g (by rw [LL.out]; exact hg)).1; omega)
        have hok1 := (HOK.out.alloc (.cells #[.int .i64 t'] 3)).kept hg (by have := HNE.out; rwa [LL.out] at this)
        obtain ⟨L', hL'⟩ : ∃ L', L ++ [t'] = L' := ⟨_, rfl⟩
        have hl' : L'.length = k + 1 := by rw [← hL']; simp [LL.out]
        have hoa' : w1.ownsRow w.heap.size 3 1 va (k + 1) (L'.map (Value.int .i64)) := by rw [← hL']; simpa using hoa
        have hE' := HE.out
        rw [hL'] at hE'
        obtain ⟨P, hP⟩ : ∃ P, pushL (nearL K t' W) ((m : Int) + 1) t' = P := ⟨_, rfl⟩
        have hput := span_put_own BK K.length dK K t' W ((m : Int) + 1) w1 (Ints.of_own hok1 rfl) (by omega)
        rw [hP] at hput hE'
        have HPUT := Lib.hid hput
        have HE' := Lib.hid hE'
        have HOA' := Lib.hid hoa'
        have hpl := hE'.len
        have LL' := Lib.hid hl'
        obtain ⟨BA', dA', rfl, hdA'⟩ := own_form hoa'
        have hck1 := (A1.cell (p := ⟨b, off + k, none⟩) hbs).trans ((HB.out.cell (p := ⟨b, off + k, none⟩) hbs).symm.trans hck)
        have hs1 := A1.size
        clear hoa hoa' hg hok1 hL' hl' hE' hP hput HE HOA HOK HNE HB hck hsz hdA' hL LL
        go_wp2_with (go_at_call 6; refine HPUT.out.mono ?_; rintro e w2 ⟨vk, rfl, hok2, hb2⟩
                     have A2 : At w w2 := A1.below hb2
                     have hck2 : w2.cell? ⟨b, off + k, none⟩ = some (.int .u8 s) := (hb2.cell (p := ⟨b, off + k, none⟩) (Nat.lt_of_lt_of_le hbs hs1)).trans hck1
                     have HOA2 := Lib.hid (own_below HOA'.out hb2)
                     have HOK2 := Lib.hid (own_base hok2 hs1)
                     have HN2 := Lib.hid (show vk.ownBlock = none ∨ vk.ownBlock ≠ (Value.slice BA' (k + 1) dA').ownBlock from by
                       cases hv : vk.ownBlock with
                       | none => exact .inl rfl
                       | some g =>
                         right
                         intro e
                         have e1 := (hok2.lt g hv).1
                         have e2 := (HOA'.out.lt g e.symm).2
                         omega)
                     obtain ⟨B2, d2, rfl, hd2⟩ := own_form hok2
                     obtain ⟨w3, hw3⟩ : ∃ w3, w2.alloc (.cells #[.int .i64 t', .int .i64 (t' + f), .int .i64 (t' + W)] 3) = w3 := ⟨_, rfl⟩
                     have V3 := three w2 t' (t' + f) (t' + W) (fun v => t' ≤ v ∧ v ≤ t' + 300) (by omega) (by omega) (by omega)
                     rw [hw3] at V3
                     replace V3 := Lib.hid V3
                     have B23 : Below w2.heap.size w2 w3 := hw3 ▸ (Below.refl _ _).alloc (Nat.le_refl _) _
                     have A3 : At w w3 := A2.below B23
                     have HOA3 := Lib.hid (own_below HOA2.out B23)
                     have HOK3 := Lib.hid (own_below HOK2.out B23)
                     have I3 := Lib.hid (Ints.of_own HOA3.out LL'.out)
                     have J3 := Lib.hid (Ints.of_own HOK3.out rfl)
                     clear hok2 hb2 hck1 HPUT HOA' HOA2 HOK2 B23 A1 A2 hs1)
        clear hw3 hck2 hd hf ht'
        go_loop [64] (fun i => ∃ j : Nat, j ≤ 3 ∧ i = .int .i64 j) (fun i => 3 - (intOf i).toNat)
        case atStart => exact ⟨0, by omega, rfl⟩
        case round =>
          obtain ⟨j, hj, rfl⟩ := hrel
          by_cases hj3 : j < 3
          · obtain ⟨now, hcn, n0, n1⟩ := V3.out j hj3
            have hT := HE'.out.tells (now := now) n0 (by omega) (by omega) W0 (by omega)
            have hO := span_over B2 P.length d2 P now W m w3 J3.out (by omega)
            have hC := span_count B2 P.length d2 P now W w3 J3.out (by omega)
            have hbd := cnt_bd L' now W
            rw [LL'.out] at hbd
            unfold overB at hO
            have HT := Lib.hid hT
            have HO := Lib.hid hO
            have HCN := Lib.hid hC
            have HBD := Lib.hid hbd
            clear hT hO hC hbd
            go_wp2
            go_loop [15, 70] (fun s i => ∃ j : Nat, j ≤ k + 1 ∧ s = .int .i64 (cntI (L'.take j) now W) ∧ i = .int .i64 j) (fun _ i => k + 1 - (intOf i).toNat)
            case atStart => exact ⟨0, by omega, rfl, rfl⟩
            case round =>
              obtain ⟨j2, hj2, rfl, rfl⟩ := hrel
              by_cases hjl : j2 < k + 1
              · obtain ⟨b', off', rfl, _, hcx⟩ := I3.out.at_ hjl
                obtain ⟨x0, x1⟩ := HE'.out.bd j2 (by have := LL'.out; omega)
                have e1 := cnt_step L' now W j2 (by have := LL'.out; omega)
                have e2 := cnt_bd (L'.take j2) now W
                rw [List.length_take, LL'.out] at e2
                obtain ⟨c0, c1⟩ : 0 ≤ cntI (L'.take j2) now W ∧ cntI (L'.take j2) now W ≤ j2 := by omega
                rw [inV_of x0 (by omega) (by omega) (by omega) W0 (by omega)] at e1
                have E1 := Lib.hid e1
                clear e1 e2
                generalize L'.getD j2 0 = x at *
                generalize cntI (L'.take j2) now W = C at *
                by_cases h1 : x ≤ now
                · by_cases h2 : now - x < W
                  · have E2 := Lib.hid (E1.out.trans (if_pos (by simp; omega)))
                    clear E1
                    go_wp2
                    go_round
                    case rel => exact ⟨j2 + 1, by omega, by rw [E2.out], by go_num⟩
                    case measure => simp [intOf]; omega
                  · have E2 := Lib.hid (E1.out.trans (if_neg (by simp; omega)))
                    clear E1
                    go_wp2
                    go_round
                    case rel => exact ⟨j2 + 1, by omega, by rw [E2.out], by go_num⟩
                    case measure => simp [intOf]; omega
                · omega
              · obtain rfl : j2 = k + 1 := by omega
                have e3 : L'.take (k + 1) = L' := List.take_of_length_le (by have := LL'.out; omega)
                rw [e3]
                have hbd := HBD.out
                obtain ⟨c0, c1⟩ := hbd
                rcases HT.out with ⟨h1, h2⟩ | ⟨h1, h2⟩
                · have hO := HO.out
                  have hC := HCN.out
                  rw [h2] at hO hC
                  rw [decide_eq_false (show ¬ ((m : Int) < cntI L' now W) by omega)] at hO
                  have q1 : decide ((m : Int) < cntI L' now W) = false := decide_eq_false (by omega)
                  have q2 : decide ((m : Int) + 1 < (P.length : Int)) = false := decide_eq_false (by omega)
                  have q3 : (cntI L' now W != cntI L' now W) = false := by simp
                  have HO1 := Lib.hid hO
                  have HC1 := Lib.hid hC
                  clear hO hC HO HCN HT h2 e3
                  generalize cntI L' now W = C at *
                  go_wp2_with (first
                    | (go_at_call 7; refine HO1.out.mono ?_; rintro e w' ⟨rfl, rfl⟩)
                    | (go_at_call 8; refine HC1.out.mono ?_; rintro e w' ⟨rfl, rfl⟩))
                  go_round
                  case rel => exact ⟨j + 1, by omega, by go_num⟩
                  case measure => simp [intOf]; omega
                · have hO := HO.out
                  rw [decide_eq_true h2] at hO
                  have q1 : decide ((m : Int) < cntI L' now W) = true := decide_eq_true h1
                  have q2 : decide ((m : Int) + 1 < (P.length : Int)) = false := decide_eq_false (by omega)
                  have HO1 := Lib.hid hO
                  clear hO HO HCN HT h2 e3
                  generalize cntI L' now W = C at *
                  go_wp2_with (go_at_call 7; refine HO1.out.mono ?_; rintro e w' ⟨rfl, rfl⟩)
                  go_round
                  case rel => exact ⟨j + 1, by omega, by go_num⟩
                  case measure => simp [intOf]; omega
          · obtain rfl : j = 3 := by omega
            go_wp2
            go_roundw
            case rel => exact ⟨k + 1, t', L', P, by omega, by go_num, rfl, by omega, by omega, LL'.out, HE'.out, by rw [LL'.out]; exact HOA3.out, HOK3.out, by exact HN2.out, A3⟩
            case measure => simp [intOf]; omega
      · obtain rfl : k = n := by omega
        clear hok hE
        go_wp2_with (go_at_call 5; refine (law5_awake w _ hb).mono ?_; rintro e w' ⟨rfl, hb'⟩)
        go_ret
        exact ⟨rfl, hb'⟩

theorem lifted (os : Os) (started : os.Started) (H : Type) (enc : TypeId × Value → H) :
    ReturnsInHanded {} Try.checked os 3 .any (Rows.spanEnoughSpec.pre6 enc Try.prog Try.f3 Rows.spanEnoughRow.domain false) (Rows.spanEnoughSpec.post enc Try.prog Try.f3 false true false false) := by
  refine law_lift started (by kernel_rfl) Try.func3 rfl rfl ?_ (by kernel_rfl)
    (ChangeSpec.witness6 (enc := enc) (C := Try.checked) false ⟨#[], #[.slice none 0 0, .int .u16 0, .int .u8 0], []⟩ 8 (by kernel_rfl) (by kernel_rfl) (by kernel_rfl) (by kernel_rfl)) ?_
  · intro ds hl
    match ds, hl with
    | [_, _, _], _ => exact ⟨rfl, rfl, rfl⟩
  · intro W base args ds p hval hA hlt hwt
    rw [Try.params3] at hA hval hwt
    obtain ⟨v0, vs0, d0, ds0, p0, q0, hargs, rfl, rfl, h0, r0⟩ := trodAll_cons hA
    obtain ⟨v1, vs1, d1, ds1, p1, q1, rfl, rfl, rfl, h1, r1⟩ := trodAll_cons r0
    obtain ⟨v2, vs2, d2, ds2, p2, q2, rfl, rfl, rfl, h2, r2⟩ := trodAll_cons r1
    obtain ⟨rfl, rfl, rfl⟩ := trodAll_nil r2
    obtain rfl : args = #[v0, v1, v2] := by cases args; simp_all
    have wt0 : ∀ n ∈ d0.weights Try.prog 22, n ≤ reachBytes := fun n hn => by
      have := List.all_eq_true.1 hwt n (DataW.weights_mem_each (j := 0) (t := 22) (d := d0) rfl rfl n hn)
      simpa using this
    have lt0 : ∀ x ∈ p0, x.block < W.heap.size := fun x hx => hlt x (by simp [hx])
    obtain ⟨A0, n0, c0, xs0, rfl, hi0, hc0, hr0, w0⟩ := open_nums_arg Try.underlying22 Try.underlying5 (by kernel_rfl) (by kernel_rfl) (hval 0 22 v0 rfl rfl) h0 lt0 wt0
    obtain ⟨a1, rfl, rfl, rfl, w1⟩ := open_int Try.underlying23 (hval 1 23 v1 rfl rfl) h1
    obtain ⟨a2, rfl, rfl, rfl, w2⟩ := open_int Try.underlying5 (hval 2 5 v2 rfl rfl) h2
    exact walk W A0 n0 c0 xs0 hi0 hc0 hr0 w0 a1 w1 a2 w2

theorem over : Rows.spanEnoughRow.holds Try.pinned (OpenSpec.ofChange Rows.spanEnoughSpec) :=
  OpenClaim.holds_of_wide 3 Try.f3 rfl rfl rfl rfl rfl rfl rfl ⟨rfl, rfl, rfl, rfl, rfl⟩ rfl rfl rfl rfl rfl (by kernel_rfl) Try.func3 (by kernel_rfl)
    (of_decide_eq_true (by kernel_rfl)) (by unfold Func.isWrapper; first | (rw [if_pos (by decide +kernel)]; kernel_rfl) | (rw [if_neg (by decide +kernel)]; exact ⟨rfl, rfl⟩))
    (fun os started H enc _ => lifted os started H enc)

theorem proved : Rows.SpanEnoughSaid := over
#print axioms proved
end Go.Proofs.Ytfbbpggepapokaa.spanEnough
