/- EyeSlow holds of every light and every list of steps: light that changes slowly makes no drop. No condition. -/
import Derived.Test.YtkddledajffdbaaLaw22
import Derived.Test.YtkddledajffdbaaGrown
import Derived.Test.YtkddledajffdbaaNums
namespace Go.Proofs.Ytkddledajffdbaa.eyeSlow
open Go.ChangeShapes Go.WideShapes Go.ChangeAt Go.RowKit
set_option linter.unusedVariables false
set_option linter.unusedSimpArgs false
set_option maxRecDepth 100000

/-- Lights that change by at most 3 a tick; the last one is X. -/
def Slow (ys : List Int) (X : Int) : Prop :=
  (∀ i, i < ys.length → 0 ≤ ys.getD i 0 ∧ ys.getD i 0 ≤ 4095) ∧ (∀ i, i + 1 < ys.length → ys.getD (i + 1) 0 - ys.getD i 0 ≤ 3 ∧ ys.getD i 0 - ys.getD (i + 1) 0 ≤ 3) ∧ (0 < ys.length → ys.getD (ys.length - 1) 0 = X)
theorem Slow.nil (X : Int) : Slow [] X := ⟨fun i h => absurd h (by simp), fun i h => absurd h (by simp), fun h => absurd h (by simp)⟩
theorem getD_old {ys : List Int} {x : Int} {i : Nat} (h : i < ys.length) : (ys ++ [x]).getD i 0 = ys.getD i 0 := by
  simp [List.getD, List.getElem?_append_left h]
theorem getD_new {ys : List Int} {x : Int} : (ys ++ [x]).getD ys.length 0 = x := by simp [List.getD]
theorem Slow.next {ys : List Int} {X M : Int} (h : Slow ys X) (h0 : 0 ≤ M) (h1 : M ≤ 4095) (h2 : M - X ≤ 3) (h3 : X - M ≤ 3) : Slow (ys ++ [M]) M := by
  obtain ⟨ha, hb, hc⟩ := h
  refine ⟨fun i hi => ?_, fun i hi => ?_, fun _ => ?_⟩
  · rw [List.length_append, List.length_singleton] at hi
    by_cases e : i < ys.length
    · rw [getD_old e]; exact ha i e
    · obtain rfl : i = ys.length := by omega
      rw [getD_new]; exact ⟨h0, h1⟩
  · rw [List.length_append, List.length_singleton] at hi
    by_cases e : i + 1 < ys.length
    · rw [getD_old e, getD_old (by omega)]; exact hb i e
    · obtain e2 : i + 1 = ys.length := by omega
      rw [getD_old (show i < ys.length by omega), e2, getD_new]
      have := hc (by omega)
      rw [show ys.length - 1 = i by omega] at this
      omega
  · rw [List.length_append, List.length_singleton, Nat.add_sub_cancel, getD_new]

theorem sub_small {l a : Int} (l0 : -5000 ≤ l) (l1 : l ≤ 5000) (a0 : -5000 ≤ a) (a1 : a ≤ 5000) : subV l a = l - a := by
  have e1 : clV l = l := clV_in (by omega)
  have e2 : clV a = a := clV_in (by omega)
  unfold subV; rw [e1, e2]; exact clV_in (by omega)
theorem shd_no {l a : Int} (h : subV l a ≤ 399) : shdB l a false = false := by
  simp [shdB]; omega
/-- An eye that has seen only slow lights: it is not shaded, and the base is near the light x. -/
def Calm (e : Gz) (x : Int) : Prop := e.bg = true ∧ e.sh = false ∧ 0 ≤ e.ba ∧ e.ba ≤ 262080 ∧ 64 * x - e.ba ≤ 12096 ∧ e.ba - 64 * x ≤ 12096
theorem calm_first {a : Int} (h0 : 0 ≤ a) (h1 : a ≤ 4095) : gzS gz0 a = false ∧ Calm (gzN gz0 a) a := by
  have hB : eyB gz0.bg gz0.ba a = 64 * a := by unfold eyB; rw [if_neg (by decide), lg_in h0 h1]
  have hS : gzS gz0 a = false := by
    unfold gzS eyS
    rw [hB, cb_in (by omega) (by omega)]
    have : (64 * a) / 64 = a := by omega
    rw [this]
    exact shd_no (by rw [sub_small (by omega) (by omega) (by omega) (by omega)]; omega)
  refine ⟨hS, rfl, hS, ?_⟩
  have hba : (gzN gz0 a).ba = 64 * a := by
    show eyN (eyB gz0.bg gz0.ba a) a (gzS gz0 a) = 64 * a
    rw [hS, hB]
    unfold eyN amS
    rw [if_neg (by simp), cb_in (by omega) (by omega), lg_in h0 h1]
    omega
  rw [hba]; omega
theorem calm_next {e : Gz} {x a : Int} (h : Calm e x) (h0 : 0 ≤ a) (h1 : a ≤ 4095) (h2 : a - x ≤ 3) (h3 : x - a ≤ 3) : gzS e a = false ∧ Calm (gzN e a) a := by
  obtain ⟨q0, q1, q2, q3, q4, q5⟩ := h
  have hB : eyB e.bg e.ba a = e.ba := by unfold eyB; rw [if_pos q0]
  have hS : gzS e a = false := by
    unfold gzS eyS
    rw [hB, cb_in q2 q3, q1]
    exact shd_no (by rw [sub_small (by omega) (by omega) (by omega) (by omega)]; omega)
  refine ⟨hS, rfl, hS, ?_⟩
  have hba : (gzN e a).ba = e.ba + (64 * a - e.ba) / 64 := by
    show eyN (eyB e.bg e.ba a) a (gzS e a) = _
    rw [hS, hB]
    unfold eyN amS
    rw [if_neg (by simp), cb_in q2 q3, lg_in h0 h1]
  rw [hba]; omega
theorem slow_calm {ys : List Int} {X : Int} (h : Slow ys X) : ∀ k, k < ys.length → gzS (gzAt ys k) (ys.getD k 0) = false ∧ Calm (gzAt ys (k + 1)) (ys.getD k 0)
  | 0, hk => calm_first (h.1 0 hk).1 (h.1 0 hk).2
  | k + 1, hk => by
    have ih := (slow_calm h k (by omega)).2
    have hd := h.2.1 k hk
    exact calm_next ih (h.1 _ hk).1 (h.1 _ hk).2 (by omega) (by omega)
/-- Where nothing is shaded there is no drop, and no stream. -/
def Still (e : Gz) (k : Nat) : Prop := ApIn e k (-9) 0
theorem still_all {ys : List Int} (hs : ∀ k, k < ys.length → gzS (gzAt ys k) (ys.getD k 0) = false) (hl : ys.length ≤ 100000) : ∀ k, k ≤ ys.length → ApIn (gzAt ys k) k (-9) 0
  | 0, _ => ap_start
  | k + 1, hk => by
    have h := ap_next (ys.getD k 0) (still_all hs hl k (by omega)) (by omega)
    have e1 := hs k (by omega)
    have e2 : gzD (gzAt ys k) (ys.getD k 0) = false := by
      cases hd : gzD (gzAt ys k) (ys.getD k 0)
      · rfl
      · have := (h.2.1 hd).2.1; rw [e1] at this; cases this
    have := h.1
    rw [e1, e2] at this
    show ApIn (gzN (gzAt ys k) (ys.getD k 0)) (k + 1) (-9) 0
    simpa using this
theorem none_seen {ys : List Int} {X : Int} (h : Slow ys X) (hl : ys.length ≤ 100000) (k : Nat) (hk : k < ys.length) : snB ys k 0 = false ∧ snB ys k 1 = false ∧ snB ys k 2 = false := by
  have hs := fun k hk => (slow_calm h k hk).1
  have ha := ap_next (ys.getD k 0) (still_all hs hl k (by omega)) (by omega)
  refine ⟨?_, hs k hk, ?_⟩
  · show gzD (gzAt ys k) (ys.getD k 0) = false
    cases hd : gzD (gzAt ys k) (ys.getD k 0)
    · rfl
    · have := (ha.2.1 hd).2.1; rw [hs k hk] at this; cases this
  · show gzT (gzAt ys k) (ys.getD k 0) = false
    rw [ha.2.2, hs k hk]; decide

set_option maxHeartbeats 4000000 in
theorem walk (w : World) (lt : Int) (wl : (Lit.int .u16 lt).wf = true) (A : Option Addr) (n c : Nat) (ss : List Int) (hi : Nums .i8 w A n ss) (hc : n ≤ c) (hr : n * 1 ≤ 140737488351232) (wx : ∀ x ∈ ss, (Lit.int .i8 x).wf = true) :
    Calls Try.prog 5 #[.int .u16 lt, .slice A n c] w fun e w' => e = .returned (.bool true) ∧ Below w.heap.size w w' := by
  have A0 : Below w.heap.size w w := Below.refl _ _
  by_cases hn : 3000 < n
  · have t0 : decide (3000 < (n : Int)) = true := decide_eq_true (by omega)
    clear hi
    go_enter Try.func5, Try.ntmps5
    go_wp2_with (go_at_call 12; refine (law22_awake w).mono ?_; rintro e w' ⟨rfl, hb⟩)
    go_ret
    exact ⟨rfl, hb⟩
  · have t0 : decide (3000 < (n : Int)) = false := decide_eq_false (by omega)
    have HI := Lib.hid hi
    have b0 : 0 ≤ lt ∧ lt ≤ 65535 := by simp only [Lit.wf, IntKind.min, IntKind.max, IntKind.signed, IntKind.bits, Bool.and_eq_true] at wl; simpa using wl
    obtain ⟨b0, b1⟩ := b0
    obtain ⟨X0, hX0⟩ : ∃ X : Int, lt % 4096 = X := ⟨_, rfl⟩
    have x0 : 0 ≤ X0 := by omega
    have x1 : X0 ≤ 4095 := by omega
    clear hi wx wl
    go_enter Try.func5, Try.ntmps5
    go_wp2
    go_loopg [5, 6, 19] n (fun gk x v i wr => ∃ (k : Nat) (X : Int) (ys : List Int), k ≤ n ∧ gk = n - k ∧ i = .int .i64 k ∧ x = .int .i64 X ∧ 0 ≤ X ∧ X ≤ 4095 ∧ ys.length = k ∧ Slow ys X ∧ Grown w ys v wr)
    case atStart => exact ⟨0, X0, [], by omega, rfl, rfl, by rw [hX0], x0, x1, rfl, Slow.nil _, Grown.nil w⟩
    case round =>
      clear x0 x1 hX0
      obtain ⟨k, X, ys, hk, rfl, rfl, rfl, x0, x1, hl, hs, hg⟩ := hrel
      by_cases hlt : k < n
      · obtain ⟨b, off, rfl, hbs, hcell⟩ := HI.out.at_ hlt
        have hck := (hg.2.2.cell (p := ⟨b, off + k, none⟩) hbs).trans hcell
        clear hcell
        generalize ss.getD k 0 = z at *
        obtain ⟨D, hD⟩ : ∃ D : Int, Int.tmod z 4 = D := ⟨_, rfl⟩
        have d0 : -3 ≤ D := by have := Int.lt_tmod_of_pos z (show (0 : Int) < 4 by omega); omega
        have d1 : D ≤ 3 := by have := Int.tmod_lt_of_pos z (show (0 : Int) < 4 by omega); omega
        have wD8 : IntKind.i8.wrap D = D := by unfold IntKind.wrap; simp [IntKind.signed, IntKind.bits]; omega
        have wD : IntKind.i64.wrap D = D := by rw [IntKind.wrap_i64]; omega
        obtain ⟨Y, hY⟩ : ∃ Y : Int, X + D = Y := ⟨_, rfl⟩
        obtain ⟨M, hway, m0, m1, m2, m3⟩ : ∃ M : Int, ((Y < 0 ∧ M = 0) ∨ (0 ≤ Y ∧ Y ≤ 4095 ∧ M = Y) ∨ (0 ≤ Y ∧ 4095 < Y ∧ M = 4095)) ∧ 0 ≤ M ∧ M ≤ 4095 ∧ M - X ≤ 3 ∧ X - M ≤ 3 := by
          by_cases h1 : Y < 0
          · exact ⟨0, .inl ⟨h1, rfl⟩, by omega⟩
          · by_cases h2 : Y ≤ 4095
            · exact ⟨Y, .inr (.inl ⟨by omega, h2, rfl⟩), by omega⟩
            · exact ⟨4095, .inr (.inr ⟨by omega, by omega, rfl⟩), by omega⟩
        have HS := Lib.hid (hs.next (M := M) m0 m1 m2 m3)
        have M0 := Lib.hid (And.intro m0 m1)
        obtain ⟨B, d, rfl, hd, hints⟩ := hg.form
        have HG := Lib.hid hg
        have HO := Lib.hid hg.2.1
        have hsz := hg.2.2.size
        clear hs hg hints m0 m1 m2 m3
        have hlb : ys.length ≤ 3000 := by omega
        have HL := Lib.hid hl
        clear hl
        rcases hway with ⟨h1, rfl⟩ | ⟨h1, h2, rfl⟩ | ⟨h1, h2, rfl⟩
        all_goals
          go_wp2_with (at_builtin; refine app_int rfl _ _ rfl _ rfl rfl HO.out hsz (by omega) ?_)
          intro v' w1 ho hgr
          have HN := Lib.hid (HG.out.next ho hgr)
          clear ho hgr HO HG
          go_wp2
          go_roundg (n - (k + 1))
          case measure => omega
          case rel => exact ⟨k + 1, _, _, by omega, by omega, by go_num, rfl, M0.out.1, M0.out.2, by simp [HL.out], HS.out, HN.out⟩
      · obtain rfl : k = n := by omega
        obtain ⟨B, d, rfl, hd, hints⟩ := hg.form
        have hb := hg.2.2
        have HNS := Lib.hid (fun i hi => none_seen hs (by omega) i hi)
        rw [hl] at hints HNS
        have HL := Lib.hid (ey_look B k d ys _ hints (by omega))
        have HLN := Lib.hid hl
        clear hints hs hg hd
        go_wp2_with (fail)
        rw [HLN.out]
        refine HL.out.mono ?_
        rintro e w1 ⟨g, rfl, S, hb1⟩
        have hb2 := below_call hb hb1
        clear hb hb1 HL
        go_wp2
        go_loopg [41] k (fun gk i wr => ∃ j : Nat, j ≤ k ∧ gk = k - j ∧ i = .int .i64 j ∧ w1 = wr)
        case atStart => exact ⟨0, by omega, rfl, rfl, rfl⟩
        case round =>
          obtain ⟨j, hj, rfl, rfl, rfl⟩ := hrel
          by_cases hjl : j < k
          · obtain ⟨e0, e1, e2⟩ := HNS.out j hjl
            have c0 : w1.cell? ⟨g, j * 4, none⟩ = some (.bool (snB ys j 0)) := S.cell j 0 hjl (by omega)
            have c1 : w1.cell? ⟨g, j * 4 + 1, none⟩ = some (.bool (snB ys j 1)) := S.cell j 1 hjl (by omega)
            have c2 : w1.cell? ⟨g, j * 4 + 2, none⟩ = some (.bool (snB ys j 2)) := S.cell j 2 hjl (by omega)
            rw [e0] at c0
            rw [e1] at c1
            rw [e2] at c2
            have SH := Lib.hid S
            clear S e0 e1 e2
            go_wp2
            go_roundg (k - (j + 1))
            case measure => omega
            case rel => exact ⟨j + 1, by omega, by omega, by go_num, rfl⟩
          · obtain rfl : j = k := by omega
            clear S
            go_wp2_with (go_at_call 12; refine (law22_awake _).mono ?_; rintro e w' ⟨rfl, hb'⟩)
            go_ret
            exact ⟨rfl, below_call hb2 hb'⟩

set_option maxRecDepth 100000 in
theorem lifted (os : Os) (started : os.Started) (H : Type) (enc : TypeId × Value → H) :
    ReturnsInHanded {} Try.checked os 5 .any (Rows.eyeSlowSpec.pre6 enc Try.prog Try.f5 Rows.eyeSlowRow.domain false) (Rows.eyeSlowSpec.post enc Try.prog Try.f5 false true false false) := by
  refine law_lift started (by kernel_rfl) Try.func5 rfl rfl ?_ (by kernel_rfl)
    (ChangeSpec.witness6 (enc := enc) (C := Try.checked) false ⟨#[], #[.int .u16 0, .slice none 0 0], []⟩ 8 (by kernel_rfl) (by kernel_rfl) (by kernel_rfl) (by kernel_rfl)) ?_
  · intro ds hl
    match ds, hl with
    | [_, _], _ => exact ⟨rfl, rfl, rfl⟩
  · intro W base args ds p hval hA hlt hwt
    rw [Try.params5] at hA hval hwt
    obtain ⟨v0, vs0, d0, ds0, p0, q0, hargs, rfl, rfl, h0, r0⟩ := trodAll_cons hA
    obtain ⟨v1, vs1, d1, ds1, p1, q1, rfl, rfl, rfl, h1, r1⟩ := trodAll_cons r0
    obtain ⟨rfl, rfl, rfl⟩ := trodAll_nil r1
    obtain rfl : args = #[v0, v1] := by cases args; simp_all
    obtain ⟨a0, rfl, rfl, rfl, w0⟩ := open_int Try.underlying38 (hval 0 38 v0 rfl rfl) h0
    have wt1 : ∀ n ∈ d1.weights Try.prog 44, n ≤ reachBytes := fun n hn => by
      have := List.all_eq_true.1 hwt n (DataW.weights_mem_each (j := 1) (t := 44) (d := d1) rfl rfl n hn)
      simpa using this
    have lt1 : ∀ x ∈ p1, x.block < W.heap.size := fun x hx => hlt x (by simp [hx])
    obtain ⟨A1, n1, c1, xs1, rfl, hi1, hc1, hr1, w1⟩ := open_nums_arg (nb := 1) Try.underlying44 Try.underlying45 (by kernel_rfl) (by kernel_rfl) (hval 1 44 v1 rfl rfl) h1 lt1 wt1
    exact walk W a0 w0 A1 n1 c1 xs1 hi1 hc1 hr1 w1

theorem over : Rows.eyeSlowRow.holds Try.pinned (OpenSpec.ofChange Rows.eyeSlowSpec) :=
  OpenClaim.holds_of_wide 5 Try.f5 rfl rfl rfl rfl rfl rfl rfl ⟨rfl, rfl, rfl, rfl, rfl⟩ rfl rfl rfl rfl rfl (by kernel_rfl) Try.func5 (by kernel_rfl)
    (of_decide_eq_true (by kernel_rfl)) (by unfold Func.isWrapper; first | (rw [if_pos (by decide +kernel)]; kernel_rfl) | (rw [if_neg (by decide +kernel)]; exact ⟨rfl, rfl⟩))
    (fun os started H enc _ => lifted os started H enc)

theorem proved : Rows.EyeSlowSaid := over
#print axioms proved
end Go.Proofs.Ytkddledajffdbaa.eyeSlow
