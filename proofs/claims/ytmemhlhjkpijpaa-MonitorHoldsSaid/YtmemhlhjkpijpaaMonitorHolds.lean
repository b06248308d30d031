/- IT IS SO JUST IF IT HOLDS, BY WHAT IT MEANS, IN EACH TICK: of any formula of at most 40 parts, and at most 60 things that are told, the monitor's answers are those of the meaning, the program's and the document's. Conditions: none. -/
import Derived.Test.YtmemhlhjkpijpaaLaw58
import Derived.Test.YtmemhlhjkpijpaaMonHo
import Derived.Test.YtmemhlhjkpijpaaHolJ
import Derived.Test.YtmemhlhjkpijpaaRefM
namespace Go.Proofs.Ytmemhlhjkpijpaa.monitorHolds
open Go.ChangeShapes Go.WideShapes Go.ChangeAt Go.RowKit Go.Proofs.Ytmemhlhjkpijpaa
set_option linter.unusedVariables false
set_option linter.unusedSimpArgs false
set_option maxRecDepth 100000
attribute [local go_sem] cell_set_ite Near.cell Near.frozen

def intIn : Value → Int | .int _ x => x | _ => 0
def boolIn : Value → Bool | .bool x => x | _ => false
def textIn : Value → ByteArray | .string x => x | _ => ⟨#[]⟩
theorem outs_of_rows {w : World} {A : Option Addr} {n : Nat} {rs : List (List Value)} (h : Rows [.int .i64, .int .i64, .int .i64, .int .i64, .int .i64, .int .i64, .int .i64, .int .i64, .int .i64, .bool, .string] w A n rs) : ∃ os, Outs w A n os := by
  let v : Nat → Nat → Value := fun i j => (rs.getD i []).getD j undef
  refine ⟨fun i => ⟨intIn (v i 0), intIn (v i 1), intIn (v i 2), intIn (v i 3), intIn (v i 4), intIn (v i 5), intIn (v i 6), intIn (v i 7), intIn (v i 8), boolIn (v i 9), textIn (v i 10)⟩, fun h0 => ?_⟩
  obtain ⟨b, off, e, hb, hc⟩ := h.2.2 h0
  refine ⟨b, off, e, hb, fun i hi j hj => ?_⟩
  have h1 := hc i hi j (by simpa using hj)
  have e11 : ([.int .i64, .int .i64, .int .i64, .int .i64, .int .i64, .int .i64, .int .i64, .int .i64, .int .i64, .bool, .string] : List TypeDesc).length = 11 := rfl
  rw [e11] at h1
  rw [Nat.add_assoc, h1]
  obtain ⟨_, hk⟩ := h.2.1 i hi
  have hI : ∀ q, ([.int .i64, .int .i64, .int .i64, .int .i64, .int .i64, .int .i64, .int .i64, .int .i64, .int .i64, .bool, .string] : List TypeDesc)[q]? = some (.int .i64) → v i q = .int .i64 (intIn (v i q)) := fun q hq => by
    obtain ⟨x, hx, _⟩ := hk q _ hq
    show v i q = _
    have : v i q = .int .i64 x := hx
    rw [this]; rfl
  show some (v i j) = _
  match j, hj with
  | 0, _ => exact congrArg some (hI 0 rfl)
  | 1, _ => exact congrArg some (hI 1 rfl)
  | 2, _ => exact congrArg some (hI 2 rfl)
  | 3, _ => exact congrArg some (hI 3 rfl)
  | 4, _ => exact congrArg some (hI 4 rfl)
  | 5, _ => exact congrArg some (hI 5 rfl)
  | 6, _ => exact congrArg some (hI 6 rfl)
  | 7, _ => exact congrArg some (hI 7 rfl)
  | 8, _ => exact congrArg some (hI 8 rfl)
  | 9, _ =>
    obtain ⟨x, hx⟩ := hk 9 _ rfl
    have : v i 9 = .bool x := hx
    refine congrArg some (?_ : v i 9 = .bool (boolIn (v i 9)))
    rw [this]; rfl
  | 10, _ =>
    obtain ⟨x, hx, _⟩ := hk 10 _ rfl
    have : v i 10 = .string x := hx
    refine congrArg some (?_ : v i 10 = .string (textIn (v i 10)))
    rw [this]; rfl
theorem run_no (A : Option Addr) (n c : Nat) (ts : Nat → Tm) (B : Option Addr) (m d : Nat) (w : World) (h : Terms w A n ts) (hr : rtB ts n = false) (hm : m ≤ 100000) :
    Calls Try.prog 16 #[.slice A n c, .slice B m d] w fun e w' => ∃ g, e = .returned (.slice (some ⟨g, 0, none⟩) m m) ∧ Col w' g m (fun i => .bool false) ∧ Below w.heap.size w w' := by
  have A0 : Below w.heap.size w w := Below.refl _ _
  have HR := Lib.hid (fun w' (hb : Below w.heap.size w w') => fo_right A n c ts w' (h.below hb))
  rw [hr] at HR
  obtain ⟨j0, hj0, hy0, hy1, hy2⟩ := info_parts truth_info
  have hmt := fun w => run_make (P := Try.prog) w 40 4 j0 _ Try.underlying40 hj0 hy0 .i64 .i64 m m (by omega) (by omega) (by rw [hy2]; omega) (by omega)
  simp only [hy1, Int.toNat_natCast, Nat.mul_one, show (Value.bool false).cells = #[.bool false] from rfl] at hmt
  have C1 := col_new w m (.bool false) 4
  have A1 := below_alloc_on (Below.refl w.heap.size w) (.cells (madeCells #[.bool false] m) 4)
  clear h hr hy0 hy1 hy2 hj0 A0
  go_enter Try.func16, Try.ntmps16
  go_wp2_with (fail)
  refine (HR.out _ A1).mono ?_
  rintro e w2 ⟨rfl, hb⟩
  have A2 := below_call A1 hb
  have HC := Lib.hid (C1.below hb)
  clear hb A1 C1 hmt
  go_wp2
  all_goals go_ret
  all_goals exact ⟨_, rfl, HC.out, A2⟩
set_option maxHeartbeats 4000000 in
theorem few (w : World) (A : Option Addr) (n c : Nat) (ts : Nat → Tm) (h : Terms w A n ts) (hc : n ≤ c) (hn : n ≤ 40) (B : Option Addr) (m d : Nat) (os : Nat → Ou) (ho : Outs w B m os) (hd : m ≤ d) (hm : m ≤ 60) :
    Calls Try.prog 6 #[.slice A n c, .slice B m d] w fun e w' => e = .returned (.bool true) ∧ Below w.heap.size w w' := by
  have H1 : ∃ v : Nat → Bool, (∀ w', Below w.heap.size w w' → Calls Try.prog 16 #[.slice A n c, .slice B m d] w' fun e w'' => ∃ g, e = .returned (.slice (some ⟨g, 0, none⟩) m m) ∧ Col w'' g m (fun i => .bool (v i)) ∧ Below w'.heap.size w' w'') ∧
      (∀ (k : Nat), k < m → ∀ w', Below w.heap.size w w' → Calls Try.prog 11 #[.slice A n c, .slice B m d, .int .i64 (k : Int)] w' fun e w'' => e = .returned (.bool (v k)) ∧ Below w'.heap.size w' w'') ∧
      (∀ (k : Nat), k < m → ∀ w', Below w.heap.size w w' → Calls Try.prog 12 #[.slice A n c, .slice B m d, .int .i64 (k : Int)] w' fun e w'' => e = .returned (.bool (v k)) ∧ Below w'.heap.size w' w'') := by
    cases hr : rtB ts n
    · exact ⟨fun _ => false, fun w' hb => run_no A n c ts B m d w' (h.below hb) hr (by omega), fun k hk w' hb => ho_holds_no A B n c m d k ts w' (h.below hb) hr, fun k hk w' hb => r7_holds_no A B n c m d k ts w' (h.below hb) hr⟩
    · refine ⟨soM os (mnF ts n), fun w' hb => (mo_run A n c ts B m d os w' (h.below hb) (ho.below hb) hr (by omega)).mono ?_, fun k hk w' hb => ho_holds_in A B n c m d k ts os w' (h.below hb) hc (ho.below hb) (by omega) hd hk hr, fun k hk w' hb => r7_holds_in A B n c m d k ts os w' (h.below hb) hc (ho.below hb) (by omega) hk hr⟩
      rintro e w'' ⟨g, h1, h2, _, h4⟩
      exact ⟨g, h1, h2.congr (fun i _ => by rw [ru_is hr os i]), h4⟩
  obtain ⟨v, H1, H2, H3⟩ := H1
  have K1 := Lib.hid H1
  have K2 := Lib.hid H2
  have K3 := Lib.hid H3
  have t0 : decide (40 < (n : Int)) = false := decide_eq_false (by omega)
  have t1 : decide (60 < (m : Int)) = false := decide_eq_false (by omega)
  have A0 : Below w.heap.size w w := Below.refl _ _
  clear H1 H2 H3 h ho
  go_enter Try.func6, Try.ntmps6
  go_wp2_with (fail)
  refine (K1.out _ A0).mono ?_
  rintro e w1 ⟨g, rfl, C1, hb⟩
  have A1 := below_call A0 hb
  have HC := Lib.hid C1
  clear hb A0 K1 C1
  go_wp2_with (fail)
  go_loopg [6, 26] m (fun gk y i wr => ∃ k : Nat, k ≤ m ∧ gk = m - k ∧ i = .int .i64 k ∧ Below w.heap.size w wr ∧ Below w1.heap.size w1 wr)
  case atStart => exact ⟨0, by omega, rfl, rfl, A1, Below.refl _ _⟩
  case round =>
    clear A1
    obtain ⟨k, hk, rfl, rfl, A1, B1⟩ := hrel
    by_cases hlt : k < m
    · have CC := HC.out.below B1
      have c0 := CC.cell k hlt
      have lg := CC.lt
      have km : (k : Int) < (m : Int) := by omega
      have K2 := Lib.hid (K2.out k hlt)
      have K3 := Lib.hid (K3.out k hlt)
      clear CC
      generalize v k = x at *
      have tx : (x != x) = false := by simp
      go_wp2_with (fail)
      refine wp_region_calm (by kernel_rfl) (by kernel_rfl) ?_
      repeat (go_big_quiet_step ((first | (go_at_call 11; exact calm_of _ (K2.out _ (below_call A1 (Near.below _)))) | (go_at_call 12; exact calm_of _ (K3.out _ (below_call A1 (Near.below _)))))))
      refine wpQuiet_nil ?_
      intro _ hw'
      obtain ⟨u, rfl⟩ := hw'
      have A2 := Lib.hid (below_call A1 u.below)
      have B2 := Lib.hid (below_call B1 u.below)
      clear c0 lg A1 B1
      go_wp2_with (fail)
      go_roundg (m - (k + 1))
      case measure => omega
      case rel => exact ⟨k + 1, by omega, by omega, by go_num, A2.out, B2.out⟩
    · obtain rfl : k = m := by omega
      clear HC K2 K3 B1
      go_wp2_with (go_at_call 15; refine (law58_awake _).mono ?_; rintro e w' ⟨rfl, hb'⟩)
      go_ret
      exact ⟨rfl, below_call A1 hb'⟩

theorem walk (w : World) (A : Option Addr) (n c : Nat) (rs : List (List Value)) (hi : Rows [.int .i64, .int .i64, .int .i64] w A n rs) (hc : n ≤ c) (hr : n * 24 ≤ 140737488351232)
    (B : Option Addr) (m d : Nat) (ro : List (List Value)) (ho : Rows [.int .i64, .int .i64, .int .i64, .int .i64, .int .i64, .int .i64, .int .i64, .int .i64, .int .i64, .bool, .string] w B m ro) (hd : m ≤ d) (hq : m * 96 ≤ 140737488351232) :
    Calls Try.prog 6 #[.slice A n c, .slice B m d] w fun e w' => e = .returned (.bool true) ∧ Below w.heap.size w w' := by
  obtain ⟨ts, h⟩ := Terms.of_rows hi
  obtain ⟨os, hos⟩ := outs_of_rows ho
  clear hi ho
  by_cases hn : n ≤ 40
  · by_cases hm : m ≤ 60
    · exact few w A n c ts h hc hn B m d os hos hd hm
    · have t0 : decide (40 < (n : Int)) = false := decide_eq_false (by omega)
      have t1 : decide (60 < (m : Int)) = true := decide_eq_true (by omega)
      clear h hos hn hm
      go_enter Try.func6, Try.ntmps6
      go_wp2_with (go_at_call 15; refine (law58_awake _).mono ?_; rintro e w' ⟨rfl, hb'⟩)
      go_ret
      exact ⟨rfl, hb'⟩
  · have t0 : decide (40 < (n : Int)) = true := decide_eq_true (by omega)
    clear h hos hn
    go_enter Try.func6, Try.ntmps6
    go_wp2_with (go_at_call 15; refine (law58_awake _).mono ?_; rintro e w' ⟨rfl, hb'⟩)
    go_ret
    exact ⟨rfl, hb'⟩

set_option maxRecDepth 100000 in
theorem lifted (os : Os) (started : os.Started) (H : Type) (enc : TypeId × Value → H) :
    ReturnsInHanded {} Try.checked os 6 .any (Rows.monitorHoldsSpec.pre6 enc Try.prog Try.f6 Rows.monitorHoldsRow.domain false) (Rows.monitorHoldsSpec.post enc Try.prog Try.f6 false true false false) := by
  refine law_lift started (by kernel_rfl) Try.func6 rfl rfl ?_ (by kernel_rfl)
    (ChangeSpec.witness6 (enc := enc) (C := Try.checked) false ⟨#[], #[.slice none 0 0, .slice none 0 0], []⟩ 8 (by kernel_rfl) (by kernel_rfl) (by kernel_rfl) (by kernel_rfl)) ?_
  · intro ds hl
    match ds, hl with
    | [_, _], _ => exact ⟨rfl, rfl, rfl⟩
  · intro W base args ds p hval hA hlt hwt
    rw [Try.params6] at hA hval hwt
    obtain ⟨v0, vs0, d0, ds0, p0, q0, hargs, rfl, rfl, h0, r0⟩ := trodAll_cons hA
    obtain ⟨v1, vs1, d1, ds1, p1, q1, rfl, rfl, rfl, h1, r1⟩ := trodAll_cons r0
    obtain ⟨rfl, rfl, rfl⟩ := trodAll_nil r1
    obtain rfl : args = #[v0, v1] := by cases args; simp_all
    have wt0 : ∀ n ∈ d0.weights Try.prog 22, n ≤ reachBytes := fun n hn => by
      have := List.all_eq_true.1 hwt n (DataW.weights_mem_each (j := 0) (t := 22) (d := d0) rfl rfl n hn)
      simpa using this
    have lt0 : ∀ x ∈ p0, x.block < W.heap.size := fun x hx => hlt x (by simp [hx])
    obtain ⟨A0, n0, c0, xs0, rfl, hi0, hc0, hr0⟩ := open_rows_arg (nb := 24) 5 [.int .i64, .int .i64, .int .i64] Try.underlying22 (by kernel_rfl) (by kernel_rfl) (by decide) (by kernel_rfl) (hval 0 22 v0 rfl rfl) h0 lt0 wt0
    have wt1 : ∀ n ∈ d1.weights Try.prog 23, n ≤ reachBytes := fun n hn => by
      have := List.all_eq_true.1 hwt n (DataW.weights_mem_each (j := 1) (t := 23) (d := d1) rfl rfl n hn)
      simpa using this
    have lt1 : ∀ x ∈ p1, x.block < W.heap.size := fun x hx => hlt x (by simp [hx])
    obtain ⟨A1, n1, c1, xs1, rfl, hi1, hc1, hr1⟩ := open_rows_arg (nb := 96) 5 [.int .i64, .int .i64, .int .i64, .int .i64, .int .i64, .int .i64, .int .i64, .int .i64, .int .i64, .bool, .string] Try.underlying23 (by kernel_rfl) (by kernel_rfl) (by decide) (by kernel_rfl) (hval 1 23 v1 rfl rfl) h1 lt1 wt1
    exact walk W A0 n0 c0 xs0 hi0 hc0 hr0 A1 n1 c1 xs1 hi1 hc1 hr1

theorem over : Rows.monitorHoldsRow.holds Try.pinned (OpenSpec.ofChange Rows.monitorHoldsSpec) :=
  OpenClaim.holds_of_wide 6 Try.f6 rfl rfl rfl rfl rfl rfl rfl ⟨rfl, rfl, rfl, rfl, rfl⟩ rfl rfl rfl rfl rfl (by kernel_rfl) Try.func6 (by kernel_rfl)
    (of_decide_eq_true (by kernel_rfl)) (by unfold Func.isWrapper; first | (rw [if_pos (by decide +kernel)]; kernel_rfl) | (rw [if_neg (by decide +kernel)]; exact ⟨rfl, rfl⟩))
    (fun os started H enc _ => lifted os started H enc)

theorem proved : Rows.MonitorHoldsSaid := over
#print axioms proved
end Go.Proofs.Ytmemhlhjkpijpaa.monitorHolds
