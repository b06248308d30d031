/- PaneExact holds of every list of steps, and every limit: it is over just if more drops than the limit fell in the last minute. No condition. -/
import Derived.Test.YtidmoacjgbjlnaaPane
import Derived.Test.YtidmoacjgbjlnaaEnough
import Derived.Test.YtidmoacjgbjlnaaNums
import Derived.Deep.LoopGhost
namespace Go.Proofs.Ytidmoacjgbjlnaa.paneExact
open Go.ChangeShapes Go.WideShapes Go.ChangeAt Go.RowKit
set_option linter.unusedVariables false
set_option linter.unusedSimpArgs false
set_option maxRecDepth 100000

theorem none_left {m : Nat} {L K : List Int} {T : Int} (h : Enough 6000 m L K T) (h0 : 0 ≤ T) (h1 : T ≤ 900000) : overB K (T + 6000) 6000 m = false := by
  obtain ⟨P, rfl, _, _, hb, _⟩ := h
  have : nearL K (T + 6000) 6000 = [] := by
    unfold nearL
    rw [List.filter_eq_nil_iff]
    intro x hx
    have := hb x (List.mem_append_right _ hx)
    rw [inV_of (by omega) (by omega) (by omega) (by omega) (by omega) (by omega)]
    simp; omega
  unfold overB cntI
  rw [this]
  simp

theorem fell (A : Option Addr) (n c : Nat) (xs : List Int) (now : Int) (w : World) (h : Ints w A n xs) (hn : n ≤ 1000) (n0 : 0 ≤ now) (n1 : now ≤ 900000) (hx : ∀ j, j < n → 0 ≤ xs.getD j 0 ∧ xs.getD j 0 ≤ 900000) :
    Calls Try.prog 15 #[.slice A n c, .int .i64 now] w fun e w' => e = .returned (.int .i64 (cntI xs now 6000)) ∧ w = w' := by
  have HI := Lib.hid h
  have LL := Lib.hid h.1
  have HX := Lib.hid hx
  clear h hx
  go_enter Try.func15, Try.ntmps15
  go_wp2
  go_loop [5, 9] (fun s i => ∃ j : Nat, j ≤ n ∧ s = .int .i64 (cntI (xs.take j) now 6000) ∧ i = .int .i64 j) (fun _ i => n - (intOf i).toNat)
  case atStart => exact ⟨0, by omega, rfl, rfl⟩
  case round =>
    obtain ⟨j, hj, rfl, rfl⟩ := hrel
    by_cases hjl : j < n
    · obtain ⟨b', off', rfl, _, hcx⟩ := HI.out.at_ hjl
      obtain ⟨x0, x1⟩ := HX.out j hjl
      have e1 := cnt_step xs now 6000 j (by have := LL.out; omega)
      have e2 := cnt_bd (xs.take j) now 6000
      rw [List.length_take, LL.out] at e2
      obtain ⟨c0, c1⟩ : 0 ≤ cntI (xs.take j) now 6000 ∧ cntI (xs.take j) now 6000 ≤ j := by omega
      rw [inV_of x0 (by omega) (by omega) (by omega) (by omega) (by omega)] at e1
      have E1 := Lib.hid e1
      clear e1 e2
      generalize xs.getD j 0 = x at *
      generalize cntI (xs.take j) now 6000 = C at *
      by_cases h1 : x ≤ now
      · by_cases h2 : now - x < 6000
        · have E2 := Lib.hid (E1.out.trans (if_pos (by simp; omega)))
          clear E1
          go_wp2
          go_round
          case rel => exact ⟨j + 1, by omega, by rw [E2.out], by go_num⟩
          case measure => simp [intOf]; omega
        · have E2 := Lib.hid (E1.out.trans (if_neg (by simp; omega)))
          clear E1
          go_wp2
          go_round
          case rel => exact ⟨j + 1, by omega, by rw [E2.out], by go_num⟩
          case measure => simp [intOf]; omega
      · have E2 := Lib.hid (E1.out.trans (if_neg (by simp; omega)))
        clear E1
        go_wp2
        go_round
        case rel => exact ⟨j + 1, by omega, by rw [E2.out], by go_num⟩
        case measure => simp [intOf]; omega
    · obtain rfl : j = n := by omega
      have e3 : xs.take j = xs := List.take_of_length_le (by have := LL.out; omega)
      rw [e3]
      go_wp2
      go_ret
      exact ⟨rfl, rfl⟩

theorem two (w : World) (x y : Int) (P : Int → Prop) (hx : P x) (hy : P y) :
    ∀ j : Nat, j < 2 → ∃ v, (w.alloc (.cells #[.int .i64 x, .int .i64 y] 3)).cell? ⟨w.heap.size, j, none⟩ = some (.int .i64 v) ∧ P v := by
  intro j hj
  match j, hj with
  | 0, _ => exact ⟨x, by rw [World.cell?_alloc_at _ _ _ _ rfl]; rfl, hx⟩
  | 1, _ => exact ⟨y, by rw [World.cell?_alloc_at _ _ _ _ rfl]; rfl, hy⟩

set_option maxHeartbeats 4000000 in
theorem walk (w : World) (A : Option Addr) (n c : Nat) (gs : List Int) (hi : Nums .u16 w A n gs) (hc : n ≤ c) (hr : n * 2 ≤ 140737488351232) (wx : ∀ x ∈ gs, (Lit.int .u16 x).wf = true) (lm : Int) (wlm : (Lit.int .u8 lm).wf = true) :
    Calls Try.prog 3 #[.slice A n c, .int .u8 lm] w fun e w' => e = .returned (.bool true) ∧ Below w.heap.size w w' := by
  have hA : Below w.heap.size w w := Below.refl _ _
  by_cases hn : 80 < n
  · clear hi
    go_enter Try.func3, Try.ntmps3
    go_wp2_with (go_at_call 12; refine (law26_awake w).mono ?_; rintro e w' ⟨rfl, hb⟩)
    go_ret
    exact ⟨rfl, hb⟩
  · have HI := Lib.hid hi
    have HX := Lib.hid (show ∀ j : Nat, j < n → 0 ≤ gs.getD j 0 ∧ gs.getD j 0 ≤ 65535 from fun j hj => by
      have hj' : j < gs.length := by have := hi.1; omega
      have h := wx (gs.getD j 0) (by simp [List.getD, List.getElem?_eq_getElem hj'])
      simp only [Lit.wf, IntKind.min, IntKind.max, IntKind.signed, IntKind.bits, Bool.and_eq_true] at h
      simpa using h)
    have b0 : 0 ≤ lm ∧ lm ≤ 255 := by simp only [Lit.wf, IntKind.min, IntKind.max, IntKind.signed, IntKind.bits, Bool.and_eq_true] at wlm; simpa using wlm
    obtain ⟨b0, b1⟩ := b0
    obtain ⟨m, hm⟩ : ∃ m : Nat, lm % 41 = m := ⟨(lm % 41).toNat, by omega⟩
    have m1 : m ≤ 40 := by omega
    clear hi wx wlm
    go_enter Try.func3, Try.ntmps3
    go_wp2
    clear hm b0 b1
    go_loopg [6, 7, 8, 22] n (fun gk va vk t i wr => ∃ (k : Nat) (T : Int) (L K : List Int), k ≤ n ∧ gk = n - k ∧ i = .int .i64 k ∧ t = .int .i64 T ∧ 0 ≤ T ∧ T ≤ 3000 * k ∧ L.length = k ∧ Enough 6000 m L K T ∧
      wr.ownsRow w.heap.size 3 1 va L.length (L.map (Value.int .i64)) ∧ wr.ownsRow w.heap.size 3 1 vk K.length (K.map (Value.int .i64)) ∧ (vk.ownBlock = none ∨ vk.ownBlock ≠ va.ownBlock) ∧ Below w.heap.size w wr)
    case atStart => exact ⟨0, 0, [], [], Nat.zero_le _, rfl, rfl, rfl, by omega, by omega, rfl, Enough.nil 6000 m, World.ownsRow_nil _ _ _ _, World.ownsRow_nil _ _ _ _, .inl rfl, hA⟩
    case round =>
      obtain ⟨k, T, L, K, hk, rfl, rfl, rfl, t0, t1, hL, hE, hoa, hok, hne, hb⟩ := hrel
      have LL := Lib.hid hL
      have HE := Lib.hid hE
      have hKl := hE.len
      have hLb : L.length ≤ 80 := by omega
      by_cases hlt : k < n
      · obtain ⟨b, off, rfl, hbs, hcell⟩ := HI.out.at_ hlt
        have hck := (hb.cell (p := ⟨b, off + k, none⟩) hbs).trans hcell
        obtain ⟨s0, s1⟩ := HX.out k hlt
        clear hcell
        generalize gs.getD k 0 = s at *
        obtain ⟨d, hd⟩ : ∃ d : Int, s % 3000 = d := ⟨_, rfl⟩
        have d0 : 0 ≤ d := by omega
        have d1 : d ≤ 2999 := by omega
        obtain ⟨G, hG⟩ : ∃ G : Int, 1 + d = G := ⟨_, rfl⟩
        obtain ⟨H, hH⟩ : ∃ H : Int, G / 2 = H := ⟨_, rfl⟩
        have hH0 : 0 ≤ H := by omega
        have hH1 : H ≤ G := by omega
        have g0 : 1 ≤ G := by omega
        have g1 : G ≤ 3000 := by omega
        obtain ⟨t', ht'⟩ : ∃ t' : Int, T + G = t' := ⟨_, rfl⟩
        obtain ⟨N1, hN1⟩ : ∃ N : Int, T + H = N := ⟨_, rfl⟩
        obtain ⟨N2, hN2⟩ : ∃ N : Int, t' - 1 = N := ⟨_, rfl⟩
        have u0 : 0 ≤ t' := by omega
        have u1 : t' ≤ 3000 * (k + 1) := by omega
        have q0 : T ≤ N1 ∧ N1 ≤ T + 3000 := by omega
        have q1 : T ≤ N2 ∧ N2 ≤ T + 3000 := by omega
        have hsz := hb.size
        have HOA := Lib.hid hoa
        obtain ⟨BA, dA, rfl, hdA⟩ := own_form hoa
        have HNE := Lib.hid hne
        have HOK := Lib.hid hok
        clear hE hoa hok hne hdA hL
        go_wp2
        have V2 := two wr N1 N2 (fun v => T ≤ v ∧ v ≤ T + 3000) q0 q1
        have A1 : Below w.heap.size w (wr.alloc (.cells #[.int .i64 N1, .int .i64 N2] 3)) := below_alloc_on hb _
        have OA1 := Lib.hid (HOA.out.alloc (.cells #[.int .i64 N1, .int .i64 N2] 3))
        have OK1 := Lib.hid (HOK.out.alloc (.cells #[.int .i64 N1, .int .i64 N2] 3))
        have hck1 : (wr.alloc (.cells #[.int .i64 N1, .int .i64 N2] 3)).cell? ⟨b, off + k, none⟩ = some (.int .u16 s) := (A1.cell (p := ⟨b, off + k, none⟩) hbs).trans ((hb.cell (p := ⟨b, off + k, none⟩) hbs).symm.trans hck)
        have lt1 : wr.heap.size < (wr.alloc (.cells #[.int .i64 N1, .int .i64 N2] 3)).heap.size := by simp
        clear HOA HOK hck hb q0 q1
        generalize hw1 : wr.alloc (.cells #[.int .i64 N1, .int .i64 N2] 3) = w1 at *
        generalize wr.heap.size = g at *
        clear hw1
        have VV := Lib.hid V2
        clear V2 hd hH
        go_loopg [7, 42] 2 (fun gk vk i wx => ∃ (j : Nat), j ≤ 2 ∧ gk = 2 - j ∧ i = .int .i64 j ∧ wx.ownsRow w.heap.size 3 1 vk K.length (K.map (Value.int .i64)) ∧ (vk.ownBlock = none ∨ vk.ownBlock ≠ (Value.slice BA L.length dA).ownBlock) ∧ Below w1.heap.size w1 wx)
        case atStart => exact ⟨0, by omega, rfl, rfl, OK1.out, HNE.out, Below.refl _ _⟩
        case round =>
          obtain ⟨j, hj, rfl, rfl, hok, hne, hbx⟩ := hrel
          have OAx := Lib.hid (own_below OA1.out hbx)
          have szx := hbx.size
          by_cases hj2 : j < 2
          · obtain ⟨now, hcn, n0, n1⟩ := VV.out j hj2
            replace hcn := (hbx.cell (p := ⟨g, j, none⟩) lt1).trans hcn
            obtain ⟨B, d', rfl, hd'⟩ := own_form hok
            have HS := pn_still B K.length d' K now m wr (Ints.of_own hok rfl) hd' (by omega)
            rw [last_all (by omega)] at HS
            have HST := Lib.hid HS
            clear HS hok hne
            go_wp2_with (fail)
            refine HST.out.mono ?_
            rintro e w3 ⟨vk, rfl, hok, hb3⟩
            have O3 := Lib.hid (own_below OAx.out hb3)
            have hok3 := Lib.hid (own_base hok (show w.heap.size ≤ wr.heap.size from Nat.le_trans A1.size szx))
            have hne3 := Lib.hid (show vk.ownBlock = none ∨ vk.ownBlock ≠ (Value.slice BA L.length dA).ownBlock from by
              cases hv : vk.ownBlock with
              | none => exact .inl rfl
              | some g' =>
                right
                intro e
                have e1 := (hok.lt g' hv).1
                have e2 := (OAx.out.lt g' e.symm).2
                omega)
            obtain ⟨B3, d3, rfl, hd3⟩ := own_form hok
            have hB3 := Lib.hid (show Below w1.heap.size w1 w3 from Below.trans hbx (hb3.mono szx))
            have hO := pn_over B3 K.length d3 K now m w3 (Ints.of_own hok rfl) (by omega)
            have hF := fell BA L.length dA L now w3 (Ints.of_own O3.out rfl) (by have := LL.out; omega) (by omega) (by omega) (fun j hj => by have := HE.out.bd j hj; omega)
            rw [pc_in (by omega) (by omega)] at hO
            unfold overB at hO
            have hbd := cnt_bd L now 6000
            rw [LL.out] at hbd
            obtain ⟨c0, c1⟩ := hbd
            have hT := HE.out.tells (now := now) n0 (by omega) (by omega) (by omega) (by omega)
            have hdec : decide ((m : Int) < cntI K now 6000) = decide ((m : Int) < cntI L now 6000) := by rw [decide_eq_decide]; omega
            rw [hdec] at hO
            have HO := Lib.hid hO
            have HF := Lib.hid hF
            clear hO hF hT hdec HST hok hb3 hbx
            generalize cntI L now 6000 = C at *
            by_cases hC : (m : Int) < C
            · have q1 : decide ((m : Int) < C) = true := decide_eq_true hC
              rw [q1] at HO
              go_wp2_with (first
                | (go_at_call 14; refine HO.out.mono ?_; rintro e w' ⟨rfl, rfl⟩)
                | (go_at_call 15; refine HF.out.mono ?_; rintro e w' ⟨rfl, rfl⟩))
              go_roundg (2 - (j + 1))
              case rel => exact ⟨j + 1, by omega, by omega, by go_num, hok3.out, hne3.out, hB3.out⟩
              case measure => omega
            · have q1 : decide ((m : Int) < C) = false := decide_eq_false hC
              rw [q1] at HO
              go_wp2_with (first
                | (go_at_call 14; refine HO.out.mono ?_; rintro e w' ⟨rfl, rfl⟩)
                | (go_at_call 15; refine HF.out.mono ?_; rintro e w' ⟨rfl, rfl⟩))
              go_roundg (2 - (j + 1))
              case rel => exact ⟨j + 1, by omega, by omega, by go_num, hok3.out, hne3.out, hB3.out⟩
              case measure => omega
          · obtain rfl : j = 2 := by omega
            have Ax : Below w.heap.size w wr := Below.trans A1 (hbx.mono A1.size)
            have hckx := (hbx.cell (p := ⟨b, off + k, none⟩) (Nat.lt_of_lt_of_le hbs A1.size)).trans hck1
            have HOA := OAx
            have HOK := Lib.hid hok
            have HNE := Lib.hid hne
            have HB := Lib.hid Ax
            have hsz := Ax.size
            have HE2 := Lib.hid (HE.out.next (t' := t') (by omega) u0 (by omega) (by omega) (by omega) (by omega))
            clear hok hne Ax OA1 OK1 hck1 hbx OAx VV A1 lt1
            go_wp2_with (at_builtin; refine app_int rfl _ _ rfl t' rfl rfl HOA.out hsz (by omega) ?_)
            intro va w2 hoa hg
            have A2 : Below w.heap.size w w2 := (HB.out.alloc hsz _).grown hg (by have := hsz; simp; omega) (fun g hg => by have := (HOA.out.lt g (by simpa [LL.out] using hg)).1; omega)
            have hok2 := (HOK.out.alloc (.cells #[.int .i64 t'] 3)).kept hg (by simpa [LL.out] using HNE.out)
            obtain ⟨L', hL'⟩ : ∃ L', L ++ [t'] = L' := ⟨_, rfl⟩
            have hl' : L'.length = k + 1 := by rw [← hL']; simp [LL.out]
            have hoa' : w2.ownsRow w.heap.size 3 1 va (k + 1) (L'.map (Value.int .i64)) := by rw [← hL']; simpa [LL.out] using hoa
            have hE' := HE2.out
            rw [hL'] at hE'
            obtain ⟨P, hP⟩ : ∃ P, pushL (nearL K t' 6000) ((m : Int) + 1) t' = P := ⟨_, rfl⟩
            have O2 := own_form hok2
            obtain ⟨BK, dK, rfl, hdK⟩ := O2
            have hput := pn_push BK K.length dK K t' m w2 (Ints.of_own hok2 rfl) (by omega)
            rw [pc_in (by omega) (by omega)] at hput
            rw [hP] at hput hE'
            have HPUT := Lib.hid hput
            have HE' := Lib.hid hE'
            have HOA' := Lib.hid hoa'
            have hpl := hE'.len
            have LL' := Lib.hid hl'
            obtain ⟨BA', dA', rfl, hdA'⟩ := own_form hoa'
            have hs2 := A2.size
            clear hoa hoa' hg hok2 hL' hl' hE' hP hput HE HE2 HOA HOK HNE HB hckx hsz hdA'
            go_wp2_with (fail)
            refine HPUT.out.mono ?_
            rintro e w3 ⟨vk, rfl, hok3, hb3⟩
            have A3 : Below w.heap.size w w3 := Below.trans A2 (hb3.mono hs2)
            have HOA3 := Lib.hid (own_below HOA'.out hb3)
            have HOK3 := Lib.hid (own_base hok3 hs2)
            have HN3 := Lib.hid (show vk.ownBlock = none ∨ vk.ownBlock ≠ (Value.slice BA' (k + 1) dA').ownBlock from by
              cases hv : vk.ownBlock with
              | none => exact .inl rfl
              | some g =>
                right
                intro e
                have e1 := (hok3.lt g hv).1
                have e2 := (HOA'.out.lt g e.symm).2
                omega)
            obtain ⟨B3, d3, rfl, hd3⟩ := own_form hok3
            have hO := pn_over B3 P.length d3 P t' m w3 (Ints.of_own hok3 rfl) (by omega)
            have hF := fell BA' (k + 1) dA' L' t' w3 (Ints.of_own HOA3.out LL'.out) (by omega) (by omega) (by omega) (fun j hj => by have := HE'.out.bd j (by have := LL'.out; omega); omega)
            rw [pc_in (by omega) (by omega)] at hO
            unfold overB at hO
            have hbd := cnt_bd L' t' 6000
            rw [LL'.out] at hbd
            obtain ⟨c0, c1⟩ := hbd
            have hT := HE'.out.tells (now := t') (by omega) (by omega) (by omega) (by omega) (by omega)
            have hdec : decide ((m : Int) < cntI P t' 6000) = decide ((m : Int) < cntI L' t' 6000) := by rw [decide_eq_decide]; omega
            rw [hdec] at hO
            have HO := Lib.hid hO
            have HF := Lib.hid hF
            have q2 : decide ((m : Int) + 1 < (P.length : Int)) = false := decide_eq_false (by omega)
            clear hO hF hT hdec HPUT hok3 hb3 HOA'
            generalize cntI L' t' 6000 = C at *
            by_cases hC : (m : Int) < C
            · have q1 : decide ((m : Int) < C) = true := decide_eq_true hC
              rw [q1] at HO
              go_wp2_with (first
                | (go_at_call 14; refine HO.out.mono ?_; rintro e w' ⟨rfl, rfl⟩)
                | (go_at_call 15; refine HF.out.mono ?_; rintro e w' ⟨rfl, rfl⟩))
              go_roundg (n - (k + 1))
              case rel => exact ⟨k + 1, t', L', P, by omega, by omega, by go_num, rfl, by omega, by omega, LL'.out, HE'.out, by rw [LL'.out]; exact HOA3.out, HOK3.out, HN3.out, A3⟩
              case measure => omega
            · have q1 : decide ((m : Int) < C) = false := decide_eq_false hC
              rw [q1] at HO
              go_wp2_with (first
                | (go_at_call 14; refine HO.out.mono ?_; rintro e w' ⟨rfl, rfl⟩)
                | (go_at_call 15; refine HF.out.mono ?_; rintro e w' ⟨rfl, rfl⟩))
              go_roundg (n - (k + 1))
              case rel => exact ⟨k + 1, t', L', P, by omega, by omega, by go_num, rfl, by omega, by omega, LL'.out, HE'.out, by rw [LL'.out]; exact HOA3.out, HOK3.out, HN3.out, A3⟩
              case measure => omega
      · obtain rfl : k = n := by omega
        obtain ⟨BK, dK, rfl, hdK⟩ := own_form hok
        have hO := pn_over BK K.length dK K (T + 6000) m wr (Ints.of_own hok rfl) (by omega)
        rw [pc_in (by omega) (by omega), none_left HE.out t0 (by omega)] at hO
        have HO := Lib.hid hO
        clear hok hE hO hoa hne
        go_wp2_with (first
          | (go_at_call 14; refine HO.out.mono ?_; rintro e w' ⟨rfl, rfl⟩)
          | (go_at_call 12; refine (law26_awake _).mono ?_; rintro e w' ⟨rfl, hb'⟩))
        go_ret
        exact ⟨rfl, below_call hb hb'⟩

set_option maxRecDepth 100000 in
theorem lifted (os : Os) (started : os.Started) (H : Type) (enc : TypeId × Value → H) :
    ReturnsInHanded {} Try.checked os 3 .any (Rows.paneExactSpec.pre6 enc Try.prog Try.f3 Rows.paneExactRow.domain false) (Rows.paneExactSpec.post enc Try.prog Try.f3 false true false false) := by
  refine law_lift started (by kernel_rfl) Try.func3 rfl rfl ?_ (by kernel_rfl)
    (ChangeSpec.witness6 (enc := enc) (C := Try.checked) false ⟨#[], #[.slice none 0 0, .int .u8 0], []⟩ 8 (by kernel_rfl) (by kernel_rfl) (by kernel_rfl) (by kernel_rfl)) ?_
  · intro ds hl
    match ds, hl with
    | [_, _], _ => exact ⟨rfl, rfl, rfl⟩
  · intro W base args ds p hval hA hlt hwt
    rw [Try.params3] at hA hval hwt
    obtain ⟨v0, vs0, d0, ds0, p0, q0, hargs, rfl, rfl, h0, r0⟩ := trodAll_cons hA
    obtain ⟨v1, vs1, d1, ds1, p1, q1, rfl, rfl, rfl, h1, r1⟩ := trodAll_cons r0
    obtain ⟨rfl, rfl, rfl⟩ := trodAll_nil r1
    obtain rfl : args = #[v0, v1] := by cases args; simp_all
    have wt0 : ∀ n ∈ d0.weights Try.prog 22, n ≤ reachBytes := fun n hn => by
      have := List.all_eq_true.1 hwt n (DataW.weights_mem_each (j := 0) (t := 22) (d := d0) rfl rfl n hn)
      simpa using this
    have lt0 : ∀ x ∈ p0, x.block < W.heap.size := fun x hx => hlt x (by simp [hx])
    obtain ⟨A0, n0, c0, xs0, rfl, hi0, hc0, hr0, w0⟩ := open_nums_arg (nb := 2) Try.underlying22 Try.underlying25 (by kernel_rfl) (by kernel_rfl) (hval 0 22 v0 rfl rfl) h0 lt0 wt0
    obtain ⟨a1, rfl, rfl, rfl, w1⟩ := open_int Try.underlying5 (hval 1 5 v1 rfl rfl) h1
    exact walk W A0 n0 c0 xs0 hi0 hc0 hr0 w0 a1 w1

theorem over : Rows.paneExactRow.holds Try.pinned (OpenSpec.ofChange Rows.paneExactSpec) :=
  OpenClaim.holds_of_wide 3 Try.f3 rfl rfl rfl rfl rfl rfl rfl ⟨rfl, rfl, rfl, rfl, rfl⟩ rfl rfl rfl rfl rfl (by kernel_rfl) Try.func3 (by kernel_rfl)
    (of_decide_eq_true (by kernel_rfl)) (by unfold Func.isWrapper; first | (rw [if_pos (by decide +kernel)]; kernel_rfl) | (rw [if_neg (by decide +kernel)]; exact ⟨rfl, rfl⟩))
    (fun os started H enc _ => lifted os started H enc)

theorem proved : Rows.PaneExactSaid := over
#print axioms proved
end Go.Proofs.Ytidmoacjgbjlnaa.paneExact
