/- LossExact holds of every list of ticks, and every timeout: drops are missed just if it was armed, and there was none, in all ticks of the timeout. No condition. -/
import Derived.Test.YtbglkokdnkcknaaLoss
import Derived.Test.YtbglkokdnkcknaaTab
import Derived.Deep.CutBlock
import Derived.Deep.LoopGhost
namespace Go.Proofs.Ytbglkokdnkcknaa.lossExact
open Go.ChangeShapes Go.WideShapes Go.ChangeAt Go.RowKit
set_option linter.unusedVariables false
attribute [local go_sem] Near.cell Near.frozen cell_set_ite

def sinF (T : Nat → Nat → Bool) (i : Nat) : Bool := T i 0 && !T i 1
def widF (T : Nat → Nat → Bool) (i : Nat) : Bool := T i 0 && T i 2
theorem sin_is {T : Nat → Nat → Bool} {i : Nat} (h : runN (sinF T) i ≤ 1000) : loS (runN (sinF T) i : Nat) (T i 0) (T i 1) = (runN (sinF T) (i + 1) : Nat) := by
  cases hf : sinF T i
  · rw [run_no hf]
    unfold sinF at hf
    unfold loS roV
    cases h0 : T i 0 <;> cases h1 : T i 1 <;> simp_all
  · rw [run_yes hf]
    unfold sinF at hf
    unfold loS roV
    rw [mo_in (by omega) (by omega)]
    cases h0 : T i 0 <;> cases h1 : T i 1 <;> simp_all
theorem wid_is {T : Nat → Nat → Bool} {i : Nat} (h : runN (widF T) i ≤ 1000) : loW (runN (widF T) i : Nat) (T i 0) (T i 2) = (runN (widF T) (i + 1) : Nat) := by
  cases hf : widF T i
  · rw [run_no hf]
    unfold widF at hf
    unfold loW roV
    cases h0 : T i 0 <;> cases h1 : T i 2 <;> simp_all
  · rw [run_yes hf]
    unfold widF at hf
    unfold loW roV
    rw [mo_in (by omega) (by omega)]
    cases h0 : T i 0 <;> cases h1 : T i 2 <;> simp_all

set_option maxRecDepth 100000 in
set_option maxHeartbeats 4000000 in
theorem some_ (W : World) (A0 : Option Addr) (n c : Nat) (T : Nat → Nat → Bool) (hi : Tab Value.bool 3 W A0 n T) (hc : n ≤ c) (hn : n ≤ 150) (t : Int) (t0 : 0 ≤ t) (t1 : t ≤ 255) :
    Calls Try.prog 11 #[.slice A0 n c, .int .u8 t] W fun e W' => e = .returned (.bool true) ∧ Below W.heap.size W W' := by
  have HI := Lib.hid hi
  have A : Below W.heap.size W W := Below.refl _ _
  have B := box_new W #[.int .i64 0, .int .i64 0] 44
  have tn : decide (150 < (n : Int)) = false := decide_eq_false (by omega)
  obtain ⟨m, hm⟩ : ∃ m, 1 + t = m := ⟨_, rfl⟩
  have m0 : 1 ≤ m := by omega
  have m1 : m ≤ 256 := by omega
  clear hi
  go_enter Try.func11, Try.ntmps11
  go_wp2
  replace A := below_alloc_on A (.cells #[.int .i64 0, .int .i64 0] 44)
  generalize W.alloc (.cells #[.int .i64 0, .int .i64 0] 44) = w1 at *
  clear hm t0 t1
  go_loopg [8, 9, 19] n (fun g _ _ i wr => ∃ j : Nat, j ≤ n ∧ g = n - j ∧ i = .int .i64 j ∧ Below W.heap.size W wr ∧ Box wr W.heap.size #[.int .i64 (runN (sinF T) j : Nat), .int .i64 (runN (widF T) j : Nat)])
  case atStart => exact ⟨0, Nat.zero_le _, rfl, rfl, A, B⟩
  case round =>
    clear A B
    obtain ⟨j, hj, rfl, rfl, A, B⟩ := hrel
    by_cases hlt : j < n
    · obtain ⟨b, off, rfl, hbs, hck0⟩ := HI.out (show 0 < n by omega)
      have hck := hck0 j hlt
      have HC := Lib.hid hck0
      clear hck0
      have r1 := run_le (sinF T) j
      have r2 := run_le (widF T) j
      have HS := Lib.hid (fun w => lo_step (runN (sinF T) j : Nat) (runN (widF T) j : Nat) (T j 0) (T j 1) (T j 2) w)
      rw [sin_is (by omega), wid_is (by omega)] at HS
      have k0 : wr.cell? ⟨b, off + j * 3, none⟩ = some (.bool (T j 0)) := (A.cell (p := ⟨b, off + (j * 3 + 0), none⟩) hbs).trans (hck 0 (by omega))
      have k1 : wr.cell? ⟨b, off + j * 3 + 1, none⟩ = some (.bool (T j 1)) := (A.cell (p := ⟨b, off + (j * 3 + 1), none⟩) hbs).trans (hck 1 (by omega))
      have k2 : wr.cell? ⟨b, off + j * 3 + 2, none⟩ = some (.bool (T j 2)) := (A.cell (p := ⟨b, off + (j * 3 + 2), none⟩) hbs).trans (hck 2 (by omega))
      have zb : b < wr.heap.size := Nat.lt_of_lt_of_le hbs A.size
      obtain ⟨lB, cB, fB⟩ := id B
      clear hck
      go_wp2
      refine wp_region_calm_tail 17 (by kernel_rfl) (by kernel_rfl) ?_
      simp only [List.take_succ_cons, List.take_zero, List.drop_succ_cons, List.drop_zero]
      repeat (go_big_quiet_step (((go_at_call 27; exact calm_of _ (HS.out _)))))
      refine wpQuiet_nil ?_
      intro _ hw'
      obtain ⟨u, rfl⟩ := hw'
      go_upto_block 2 with fail
      replace A := below_set_on (below_set_on (u.up A) (p := ⟨W.heap.size, 0, none⟩) (Nat.le_refl _) (.int .i64 (runN (sinF T) (j + 1) : Nat))) (p := ⟨W.heap.size, 1, none⟩) (Nat.le_refl _) (.int .i64 (runN (widF T) (j + 1) : Nat))
      replace B := (B.near u).two_set (.int .i64 (runN (sinF T) (j + 1) : Nat)) (.int .i64 (runN (widF T) (j + 1) : Nat))
      generalize (u.at_.setCell ⟨W.heap.size, 0, none⟩ (.int .i64 (runN (sinF T) (j + 1) : Nat))).setCell ⟨W.heap.size, 1, none⟩ (.int .i64 (runN (widF T) (j + 1) : Nat)) = w3 at *
      clear cB fB lB k0 k1 k2 HS u r1 r2 zb
      have HE1 := Lib.hid (run_end (f := sinF T) (i := j))
      have HE2 := Lib.hid (run_end (f := widF T) (i := j))
      have HN1 := Lib.hid (fun q => run_in (f := sinF T) (i := j) (q := q))
      have HN2 := Lib.hid (fun q => run_in (f := widF T) (i := j) (q := q))
      have r1 := run_le (sinF T) (j + 1)
      have r2 := run_le (widF T) (j + 1)
      obtain ⟨x, hx⟩ : ∃ x, runN (sinF T) (j + 1) = x := ⟨_, rfl⟩
      obtain ⟨y, hy⟩ : ∃ y, runN (widF T) (j + 1) = y := ⟨_, rfl⟩
      rw [hx] at B HE1 HN1 r1
      rw [hy] at B HE2 HN2 r2
      have HXY := Lib.hid hx
      have HYX := Lib.hid hy
      clear hx hy
      have HC3 := Lib.hid (show ∀ i, i < n → ∀ k, k < 3 → w3.cell? ⟨b, off + (i * 3 + k), none⟩ = some (.bool (T i k)) from fun i hi k hk => (A.cell (p := ⟨b, off + (i * 3 + k), none⟩) hbs).trans (HC.out i hi k hk))
      clear HC
      have zb : b < w3.heap.size := Nat.lt_of_lt_of_le hbs A.size
      go_cut [8, 19] from 19 to 105 (fun v i wx => v = .int .i64 (x : Nat) ∧ i = .int .i64 (j : Nat) ∧ w3 = wx)
      case first =>
        go_wp2_with fail
        go_loopg [8] x (fun g v wx => w3 = wx ∧ ∃ q : Nat, q ≤ x ∧ g = x - q ∧ v = .int .i64 q)
        case atStart => exact ⟨rfl, 0, Nat.zero_le _, rfl, rfl⟩
        case round =>
          obtain ⟨rfl, q, hq, rfl, rfl⟩ := hrel
          by_cases hqx : q < x
          · obtain ⟨g1, g2⟩ := HN1.out q hqx
            obtain ⟨s, hs⟩ : ∃ s : Nat, (j : Int) - q = s := ⟨j - q, by omega⟩
            rw [show j - q = s by omega] at g2
            have k0 : w3.cell? ⟨b, off + s * 3, none⟩ = some (.bool (T s 0)) := HC3.out s (by omega) 0 (by omega)
            have k1 : w3.cell? ⟨b, off + s * 3 + 1, none⟩ = some (.bool (T s 1)) := HC3.out s (by omega) 1 (by omega)
            have sn : s < n := by omega
            unfold sinF at g2
            cases h0 : T s 0 <;> cases h1 : T s 1 <;> simp [h0, h1] at g2
            rw [h0] at k0
            rw [h1] at k1
            go_wp2
            go_roundg (x - (q + 1))
            case rel => exact ⟨rfl, q + 1, by omega, rfl, by go_num⟩
            case measure => omega
          · obtain rfl : q = x := by omega
            clear hqx hq
            obtain hqj | ⟨hqj, hno⟩ : j < q ∨ (q ≤ j ∧ sinF T (j - q) = false) := by
              by_cases e : q ≤ j
              · exact .inr ⟨e, HE1.out e⟩
              · exact .inl (by omega)
            · go_wp2
              go_meet
              exact ⟨rfl, rfl, rfl⟩
            · obtain ⟨s, hs⟩ : ∃ s : Nat, (j : Int) - q = s := ⟨j - q, by omega⟩
              rw [show j - q = s by omega] at hno
              have k0 : w3.cell? ⟨b, off + s * 3, none⟩ = some (.bool (T s 0)) := HC3.out s (by omega) 0 (by omega)
              have k1 : w3.cell? ⟨b, off + s * 3 + 1, none⟩ = some (.bool (T s 1)) := HC3.out s (by omega) 1 (by omega)
              have sn : s < n := by omega
              unfold sinF at hno
              cases h0 : T s 0 <;> cases h1 : T s 1 <;> simp [h0, h1] at hno
              all_goals rw [h0] at k0
              all_goals rw [h1] at k1
              all_goals go_wp2
              all_goals go_meet
              all_goals exact ⟨rfl, rfl, rfl⟩
      case rest =>
        obtain ⟨rfl, rfl, rfl⟩ := hcut
        clear HE1 HN1
        go_upto_block 4 with fail
        go_cut [9, 19] from 19 to 105 (fun v i wx => v = .int .i64 (y : Nat) ∧ i = .int .i64 (j : Nat) ∧ w3 = wx)
        case first =>
          go_wp2_with fail
          go_loopg [9] y (fun g v wx => w3 = wx ∧ ∃ q : Nat, q ≤ y ∧ g = y - q ∧ v = .int .i64 q)
          case atStart => exact ⟨rfl, 0, Nat.zero_le _, rfl, rfl⟩
          case round =>
            obtain ⟨rfl, q, hq, rfl, rfl⟩ := hrel
            by_cases hqx : q < y
            · obtain ⟨g1, g2⟩ := HN2.out q hqx
              obtain ⟨s, hs⟩ : ∃ s : Nat, (j : Int) - q = s := ⟨j - q, by omega⟩
              rw [show j - q = s by omega] at g2
              have k0 : w3.cell? ⟨b, off + s * 3, none⟩ = some (.bool (T s 0)) := HC3.out s (by omega) 0 (by omega)
              have k1 : w3.cell? ⟨b, off + s * 3 + 2, none⟩ = some (.bool (T s 2)) := HC3.out s (by omega) 2 (by omega)
              have sn : s < n := by omega
              unfold widF at g2
              cases h0 : T s 0 <;> cases h1 : T s 2 <;> simp [h0, h1] at g2
              rw [h0] at k0
              rw [h1] at k1
              go_wp2
              go_roundg (y - (q + 1))
              case rel => exact ⟨rfl, q + 1, by omega, rfl, by go_num⟩
              case measure => omega
            · obtain rfl : q = y := by omega
              clear hqx hq
              obtain hqj | ⟨hqj, hno⟩ : j < q ∨ (q ≤ j ∧ widF T (j - q) = false) := by
                by_cases e : q ≤ j
                · exact .inr ⟨e, HE2.out e⟩
                · exact .inl (by omega)
              · go_wp2
                go_meet
                exact ⟨rfl, rfl, rfl⟩
              · obtain ⟨s, hs⟩ : ∃ s : Nat, (j : Int) - q = s := ⟨j - q, by omega⟩
                rw [show j - q = s by omega] at hno
                have k0 : w3.cell? ⟨b, off + s * 3, none⟩ = some (.bool (T s 0)) := HC3.out s (by omega) 0 (by omega)
                have k1 : w3.cell? ⟨b, off + s * 3 + 2, none⟩ = some (.bool (T s 2)) := HC3.out s (by omega) 2 (by omega)
                have sn : s < n := by omega
                unfold widF at hno
                cases h0 : T s 0 <;> cases h1 : T s 2 <;> simp [h0, h1] at hno
                all_goals rw [h0] at k0
                all_goals rw [h1] at k1
                all_goals go_wp2
                all_goals go_meet
                all_goals exact ⟨rfl, rfl, rfl⟩
        case rest =>
          obtain ⟨rfl, rfl, rfl⟩ := hcut
          clear HE2 HN2 HC3
          have HL := Lib.hid (fun w => lo_lost (x : Nat) (y : Nat) m w)
          obtain ⟨lB, cB, fB⟩ := id B
          by_cases hm : m ≤ (x : Int)
          all_goals
            first
              | rw [show ltB (x : Nat) m = true by unfold ltB; exact decide_eq_true (by omega)] at HL
              | rw [show ltB (x : Nat) m = false by unfold ltB; exact decide_eq_false (by omega)] at HL
            first
              | have t2 := decide_eq_true hm
              | have t2 := decide_eq_false hm
            go_wp2_with (fail)
            refine (HL.out _).mono ?_
            rintro e w4 ⟨rfl, hb⟩
            replace A : Below W.heap.size W w4 := by (refine below_call ?_ hb; (repeat (first | (with_reducible exact Below.refl _ _) | (with_reducible assumption) | (with_reducible refine Near.up _ ?_) | (with_reducible refine below_alloc_on ?_ _) | (with_reducible refine below_set_on ?_ (by first | (simp; done) | (simp; omega) | omega) _))))
            replace B := Box.below (g := W.heap.size) (by (repeat (first | (with_reducible assumption) | (with_reducible exact box_new _ _ _) | (with_reducible refine Box.near ?_ _) | (with_reducible refine Box.alloc ?_ _) | (with_reducible refine Box.far ?_ (by first | assumption | (simp; done) | (simp; omega) | omega) _) | (with_reducible refine Box.set ?_ ?_ _) | (simp; done)))) hb
            (try clear cB fB)
            clear hb
            have z_w4 : W.heap.size ≤ w4.heap.size := A.size
            obtain ⟨lB_w4, cB, fB⟩ := id B
            go_wp2
            go_roundg (n - (j + 1))
            case rel => exact ⟨j + 1, by omega, rfl, by go_num, A, by rw [HXY.out, HYX.out]; exact B⟩
            case measure => omega
    · obtain rfl : j = n := by omega
      go_wp2_with (fail)
      refine (law32_awake _).mono ?_
      rintro e w2 ⟨rfl, hb⟩
      replace A : Below W.heap.size W w2 := by (refine below_call ?_ hb; (repeat (first | (with_reducible exact Below.refl _ _) | (with_reducible assumption) | (with_reducible refine Near.up _ ?_) | (with_reducible refine below_alloc_on ?_ _) | (with_reducible refine below_set_on ?_ (by first | (simp; done) | (simp; omega) | omega) _))))
      clear hb
      have z_w2 : W.heap.size ≤ w2.heap.size := A.size
      go_wp2
      all_goals go_ret
      all_goals exact ⟨rfl, A⟩

theorem walk (W : World) (A : Option Addr) (n c : Nat) (rs : List (List Value)) (hi : Rows [.bool, .bool, .bool] W A n rs) (hc : n ≤ c) (hr : n * 3 ≤ 140737488351232) (t : Int) (wt : (Lit.int .u8 t).wf = true) :
    Calls Try.prog 11 #[.slice A n c, .int .u8 t] W fun e W' => e = .returned (.bool true) ∧ Below W.heap.size W W' := by
  simp only [Lit.wf, IntKind.min, IntKind.max, IntKind.signed, IntKind.bits, Bool.and_eq_true] at wt
  simp at wt
  by_cases h : 150 < n
  · have t1 : decide (150 < (n : Int)) = true := decide_eq_true (by omega)
    clear hi
    go_enter Try.func11, Try.ntmps11
    go_wp2_with (fail)
    refine (law32_awake _).mono ?_
    rintro e w3 ⟨rfl, hb⟩
    go_wp2
    all_goals go_ret
    all_goals exact ⟨rfl, hb⟩
  · obtain ⟨T, hT⟩ := tab_bools (m := 3) hi
    exact some_ W A n c T hT hc (by omega) t (by omega) (by omega)

theorem lifted (os : Os) (started : os.Started) (H : Type) (enc : TypeId × Value → H) :
    ReturnsInHanded {} Try.checked os 11 .any (Rows.lossExactSpec.pre6 enc Try.prog Try.f11 Rows.lossExactRow.domain false) (Rows.lossExactSpec.post enc Try.prog Try.f11 false true false false) := by
  refine law_lift started (by kernel_rfl) Try.func11 rfl rfl ?_ (by kernel_rfl)
    (ChangeSpec.witness6 (enc := enc) (C := Try.checked) false ⟨#[], #[.slice none 0 0, .int .u8 0], []⟩ 8 (by kernel_rfl) (by kernel_rfl) (by kernel_rfl) (by kernel_rfl)) ?_
  · intro ds hl
    match ds, hl with
    | [_, _], _ => exact ⟨rfl, rfl, rfl⟩
  · intro W base args ds p hval hA hlt hwt
    rw [Try.params11] at hA hval hwt
    obtain ⟨v0, vs0, d0, ds0, p0, q0, hargs, rfl, rfl, h0, r0⟩ := trodAll_cons hA
    obtain ⟨v1, vs1, d1, ds1, p1, q1, rfl, rfl, rfl, h1, r1⟩ := trodAll_cons r0
    obtain ⟨rfl, rfl, rfl⟩ := trodAll_nil r1
    obtain rfl : args = #[v0, v1] := by cases args; simp_all
    have wt0 : ∀ n ∈ d0.weights Try.prog 50, n ≤ reachBytes := fun n hn => by
      have := List.all_eq_true.1 hwt n (DataW.weights_mem_each (j := 0) (t := 50) (d := d0) rfl rfl n hn)
      simpa using this
    have lt0 : ∀ x ∈ p0, x.block < W.heap.size := fun x hx => hlt x (by simp [hx])
    obtain ⟨A0, n0, c0, xs0, rfl, hi0, hc0, hr0⟩ := open_rows_arg 5 [.bool, .bool, .bool] Try.underlying50 (by kernel_rfl) (by kernel_rfl) (by decide) (by kernel_rfl) (hval 0 50 v0 rfl rfl) h0 lt0 wt0
    obtain ⟨a1, rfl, rfl, rfl, w1⟩ := open_int Try.underlying5 (hval 1 5 v1 rfl rfl) h1
    exact walk W A0 n0 c0 xs0 hi0 hc0 hr0 a1 w1

theorem over : Rows.lossExactRow.holds Try.pinned (OpenSpec.ofChange Rows.lossExactSpec) :=
  OpenClaim.holds_of_wide 11 Try.f11 rfl rfl rfl rfl rfl rfl rfl ⟨rfl, rfl, rfl, rfl, rfl⟩ rfl rfl rfl rfl rfl (by kernel_rfl) Try.func11 (by kernel_rfl)
    (of_decide_eq_true (by kernel_rfl)) (by unfold Func.isWrapper; first | (rw [if_pos (by decide +kernel)]; kernel_rfl) | (rw [if_neg (by decide +kernel)]; exact ⟨rfl, rfl⟩))
    (fun os started H enc _ => lifted os started H enc)

theorem proved : Rows.LossExactSaid := over
#print axioms proved
end Go.Proofs.Ytbglkokdnkcknaa.lossExact
