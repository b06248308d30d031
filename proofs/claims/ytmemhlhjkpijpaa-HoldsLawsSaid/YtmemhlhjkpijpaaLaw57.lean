/- The law package's own check of holds; what came in, as ticks. -/
import Derived.Test.YtmemhlhjkpijpaaHolJ
namespace Go.Proofs.Ytmemhlhjkpijpaa
open Go.RowKit
set_option linter.unusedVariables false
set_option linter.unusedSimpArgs false
set_option maxRecDepth 100000
attribute [local go_sem] cell_set_ite Near.cell Near.frozen

def intOf_ : Value → Int | .int _ x => x | _ => 0
def boolOf_ : Value → Bool | .bool x => x | _ => false
def textOf_ : Value → ByteArray | .string x => x | _ => ⟨#[]⟩
theorem Outs.of_rows {w : World} {A : Option Addr} {n : Nat} {rs : List (List Value)} (h : Rows [.int .i64, .int .i64, .int .i64, .int .i64, .int .i64, .int .i64, .int .i64, .int .i64, .int .i64, .bool, .string] w A n rs) : ∃ os, Outs w A n os := by
  let v : Nat → Nat → Value := fun i j => (rs.getD i []).getD j undef
  refine ⟨fun i => ⟨intOf_ (v i 0), intOf_ (v i 1), intOf_ (v i 2), intOf_ (v i 3), intOf_ (v i 4), intOf_ (v i 5), intOf_ (v i 6), intOf_ (v i 7), intOf_ (v i 8), boolOf_ (v i 9), textOf_ (v i 10)⟩, fun h0 => ?_⟩
  obtain ⟨b, off, e, hb, hc⟩ := h.2.2 h0
  refine ⟨b, off, e, hb, fun i hi j hj => ?_⟩
  have h1 := hc i hi j (by simpa using hj)
  have e11 : ([.int .i64, .int .i64, .int .i64, .int .i64, .int .i64, .int .i64, .int .i64, .int .i64, .int .i64, .bool, .string] : List TypeDesc).length = 11 := rfl
  rw [e11] at h1
  rw [Nat.add_assoc, h1]
  obtain ⟨_, hk⟩ := h.2.1 i hi
  have hI : ∀ q, ([.int .i64, .int .i64, .int .i64, .int .i64, .int .i64, .int .i64, .int .i64, .int .i64, .int .i64, .bool, .string] : List TypeDesc)[q]? = some (.int .i64) → v i q = .int .i64 (intOf_ (v i q)) := fun q hq => by
    obtain ⟨x, hx, _⟩ := hk q _ hq
    show v i q = _
    have : v i q = .int .i64 x := hx
    rw [this]; rfl
  show some (v i j) = _
  match j, hj with
  | 0, _ => exact congrArg some (hI 0 rfl)
  | 1, _ => exact congrArg some (hI 1 rfl)
  | 2, _ => exact congrArg some (hI 2 rfl)
  | 3, _ => exact congrArg some (hI 3 rfl)
  | 4, _ => exact congrArg some (hI 4 rfl)
  | 5, _ => exact congrArg some (hI 5 rfl)
  | 6, _ => exact congrArg some (hI 6 rfl)
  | 7, _ => exact congrArg some (hI 7 rfl)
  | 8, _ => exact congrArg some (hI 8 rfl)
  | 9, _ =>
    obtain ⟨x, hx⟩ := hk 9 _ rfl
    have : v i 9 = .bool x := hx
    refine congrArg some (?_ : v i 9 = .bool (boolOf_ (v i 9)))
    rw [this]; rfl
  | 10, _ =>
    obtain ⟨x, hx, _⟩ := hk 10 _ rfl
    have : v i 10 = .string x := hx
    refine congrArg some (?_ : v i 10 = .string (textOf_ (v i 10)))
    rw [this]; rfl


def os7 : Nat → Ou := fun i => if i = 0 then ⟨0, 3, 0, 0, 0, 0, 0, 0, 0, true, ⟨#[]⟩⟩ else if i = 1 then ⟨0, 3, 0, 0, 0, 0, 0, 0, 0, false, ⟨#[]⟩⟩ else ⟨0, 7, 8, 0, 0, 0, 0, 0, 0, false, ⟨#[]⟩⟩
theorem os7_cells : ∀ i, i < 3 → ∀ j, j < 11 → (#[.int .i64 0, .int .i64 3, .int .i64 0, .int .i64 0, .int .i64 0, .int .i64 0, .int .i64 0, .int .i64 0, .int .i64 0, .bool true, .string ⟨#[]⟩, .int .i64 0, .int .i64 3, .int .i64 0, .int .i64 0, .int .i64 0, .int .i64 0, .int .i64 0, .int .i64 0, .int .i64 0, .bool false, .string ⟨#[]⟩, .int .i64 0, .int .i64 7, .int .i64 8, .int .i64 0, .int .i64 0, .int .i64 0, .int .i64 0, .int .i64 0, .int .i64 0, .bool false, .string ⟨#[]⟩] : Array Value)[i * 11 + j]? = (os7 i).cells[j]? := by
  intro i hi j hj
  match i, hi with
  | 0, _ => match j, hj with
    | 0, _ => rfl
    | 1, _ => rfl
    | 2, _ => rfl
    | 3, _ => rfl
    | 4, _ => rfl
    | 5, _ => rfl
    | 6, _ => rfl
    | 7, _ => rfl
    | 8, _ => rfl
    | 9, _ => rfl
    | 10, _ => rfl
  | 1, _ => match j, hj with
    | 0, _ => rfl
    | 1, _ => rfl
    | 2, _ => rfl
    | 3, _ => rfl
    | 4, _ => rfl
    | 5, _ => rfl
    | 6, _ => rfl
    | 7, _ => rfl
    | 8, _ => rfl
    | 9, _ => rfl
    | 10, _ => rfl
  | 2, _ => match j, hj with
    | 0, _ => rfl
    | 1, _ => rfl
    | 2, _ => rfl
    | 3, _ => rfl
    | 4, _ => rfl
    | 5, _ => rfl
    | 6, _ => rfl
    | 7, _ => rfl
    | 8, _ => rfl
    | 9, _ => rfl
    | 10, _ => rfl

theorem os7_lit (w : World) : Outs (w.alloc (.cells #[.int .i64 0, .int .i64 3, .int .i64 0, .int .i64 0, .int .i64 0, .int .i64 0, .int .i64 0, .int .i64 0, .int .i64 0, .bool true, .string ⟨#[]⟩, .int .i64 0, .int .i64 3, .int .i64 0, .int .i64 0, .int .i64 0, .int .i64 0, .int .i64 0, .int .i64 0, .int .i64 0, .bool false, .string ⟨#[]⟩, .int .i64 0, .int .i64 7, .int .i64 8, .int .i64 0, .int .i64 0, .int .i64 0, .int .i64 0, .int .i64 0, .int .i64 0, .bool false, .string ⟨#[]⟩] 29)) (some ⟨w.heap.size, 0, none⟩) 3 os7 := fun _ => by
  refine ⟨w.heap.size, 0, rfl, by simp, fun i hi j hj => ?_⟩
  rw [World.cell?_alloc_at _ _ _ _ (by simp), Nat.zero_add]
  exact os7_cells i hi j hj
def tsL : Nat → Tm := fun i => if i = 0 then ⟨2, 9, 1⟩ else ⟨6, 1, 0⟩
theorem tsL_lit {w : World} {g : Nat} (hg : w.heap.size = g) : Terms (w.alloc (.cells #[.int .i64 2, .int .i64 9, .int .i64 1, .int .i64 6, .int .i64 1, .int .i64 0] 36)) (some ⟨g, 0, none⟩) 2 tsL := by
  subst hg
  refine ⟨fun i hi => ?_, fun _ => ⟨w.heap.size, 0, rfl, by simp, fun i hi => ?_⟩⟩
  · match i, hi with
    | 0, _ => decide
    | 1, _ => decide
  · rw [World.cell?_alloc_at _ _ _ _ (by simp), World.cell?_alloc_at _ _ _ _ (by simp), World.cell?_alloc_at _ _ _ _ (by simp)]
    match i, hi with
    | 0, _ => exact ⟨rfl, rfl, rfl⟩
    | 1, _ => exact ⟨rfl, rfl, rfl⟩
def tsM : Nat → Tm := fun i => if i = 0 then ⟨2, 1, 3⟩ else if i = 1 then ⟨2, 9, 1⟩ else ⟨8, 0, 0⟩
theorem tsM_lit {w : World} {g : Nat} (hg : w.heap.size = g) : Terms (w.alloc (.cells #[.int .i64 2, .int .i64 1, .int .i64 3, .int .i64 2, .int .i64 9, .int .i64 1, .int .i64 8, .int .i64 0, .int .i64 0] 36)) (some ⟨g, 0, none⟩) 3 tsM := by
  subst hg
  refine ⟨fun i hi => ?_, fun _ => ⟨w.heap.size, 0, rfl, by simp, fun i hi => ?_⟩⟩
  · match i, hi with
    | 0, _ => decide
    | 1, _ => decide
    | 2, _ => decide
  · rw [World.cell?_alloc_at _ _ _ _ (by simp), World.cell?_alloc_at _ _ _ _ (by simp), World.cell?_alloc_at _ _ _ _ (by simp)]
    match i, hi with
    | 0, _ => exact ⟨rfl, rfl, rfl⟩
    | 1, _ => exact ⟨rfl, rfl, rfl⟩
    | 2, _ => exact ⟨rfl, rfl, rfl⟩
def tsH : Nat → Tm := fun i => ⟨2, 11, 8⟩
theorem tsH_lit {w : World} {g : Nat} (hg : w.heap.size = g) : Terms (w.alloc (.cells #[.int .i64 2, .int .i64 11, .int .i64 8] 36)) (some ⟨g, 0, none⟩) 1 tsH := by
  subst hg
  refine ⟨fun i hi => ?_, fun _ => ⟨w.heap.size, 0, rfl, by simp, fun i hi => ?_⟩⟩
  · match i, hi with
    | 0, _ => decide
  · rw [World.cell?_alloc_at _ _ _ _ (by simp), World.cell?_alloc_at _ _ _ _ (by simp), World.cell?_alloc_at _ _ _ _ (by simp)]
    match i, hi with
    | 0, _ => exact ⟨rfl, rfl, rfl⟩
theorem ho_known {A B : Option Addr} {n c m d : Nat} {ts : Nat → Tm} {os : Nat → Ou} {w : World} (k : Nat) (v : Bool) (h : Terms w A n ts) (ho : Outs w B m os) (hc : n ≤ c) (hm : m ≤ 100000) (hd : m ≤ d) (hk : k < m) (hr : rtB ts n = true) (hv : soM os (mnF ts n) k = v) :
    Calls Try.prog 11 #[.slice A n c, .slice B m d, .int .i64 (k : Int)] w fun e w' => e = .returned (.bool v) ∧ Below w.heap.size w w' := hv ▸ ho_holds_in A B n c m d k ts os w h hc ho hm hd hk hr
theorem terms_nil (w : World) : Terms w none 0 (fun _ => ⟨0, 0, 0⟩) := ⟨fun i hi => by omega, fun h => by omega⟩
set_option maxHeartbeats 4000000 in
theorem law57_awake (w : World) : Calls Try.prog 8 #[] w fun e w' => e = .returned (.bool true) ∧ Below w.heap.size w w' := by
  have A0 : Below w.heap.size w w := Below.refl _ _
  have A1 := below_alloc_on A0 (.cells #[.int .i64 0, .int .i64 3, .int .i64 0, .int .i64 0, .int .i64 0, .int .i64 0, .int .i64 0, .int .i64 0, .int .i64 0, .bool true, .string ⟨#[]⟩, .int .i64 0, .int .i64 3, .int .i64 0, .int .i64 0, .int .i64 0, .int .i64 0, .int .i64 0, .int .i64 0, .int .i64 0, .bool false, .string ⟨#[]⟩, .int .i64 0, .int .i64 7, .int .i64 8, .int .i64 0, .int .i64 0, .int .i64 0, .int .i64 0, .int .i64 0, .int .i64 0, .bool false, .string ⟨#[]⟩] 29)
  have A2 := below_alloc_on A1 (.cells #[.int .i64 2, .int .i64 9, .int .i64 1, .int .i64 6, .int .i64 1, .int .i64 0] 36)
  have A3 := below_alloc_on A2 (.cells #[.int .i64 2, .int .i64 1, .int .i64 3, .int .i64 2, .int .i64 9, .int .i64 1, .int .i64 8, .int .i64 0, .int .i64 0] 36)
  have A4 := below_alloc_on A3 (.cells #[.int .i64 2, .int .i64 11, .int .i64 8] 36)
  have HO := Lib.hid ((((os7_lit w).below (below_alloc_on (Below.refl _ _) (.cells #[.int .i64 2, .int .i64 9, .int .i64 1, .int .i64 6, .int .i64 1, .int .i64 0] 36))).below (below_alloc_on (Below.refl _ _) (.cells #[.int .i64 2, .int .i64 1, .int .i64 3, .int .i64 2, .int .i64 9, .int .i64 1, .int .i64 8, .int .i64 0, .int .i64 0] 36))).below (below_alloc_on (Below.refl _ _) (.cells #[.int .i64 2, .int .i64 11, .int .i64 8] 36)))
  have HL := Lib.hid (((tsL_lit (w := (w.alloc (.cells #[.int .i64 0, .int .i64 3, .int .i64 0, .int .i64 0, .int .i64 0, .int .i64 0, .int .i64 0, .int .i64 0, .int .i64 0, .bool true, .string ⟨#[]⟩, .int .i64 0, .int .i64 3, .int .i64 0, .int .i64 0, .int .i64 0, .int .i64 0, .int .i64 0, .int .i64 0, .int .i64 0, .bool false, .string ⟨#[]⟩, .int .i64 0, .int .i64 7, .int .i64 8, .int .i64 0, .int .i64 0, .int .i64 0, .int .i64 0, .int .i64 0, .int .i64 0, .bool false, .string ⟨#[]⟩] 29))) (g := w.heap.size + 1) (by simp)).below (below_alloc_on (Below.refl _ _) (.cells #[.int .i64 2, .int .i64 1, .int .i64 3, .int .i64 2, .int .i64 9, .int .i64 1, .int .i64 8, .int .i64 0, .int .i64 0] 36))).below (below_alloc_on (Below.refl _ _) (.cells #[.int .i64 2, .int .i64 11, .int .i64 8] 36)))
  have HM := Lib.hid ((tsM_lit (w := ((w.alloc (.cells #[.int .i64 0, .int .i64 3, .int .i64 0, .int .i64 0, .int .i64 0, .int .i64 0, .int .i64 0, .int .i64 0, .int .i64 0, .bool true, .string ⟨#[]⟩, .int .i64 0, .int .i64 3, .int .i64 0, .int .i64 0, .int .i64 0, .int .i64 0, .int .i64 0, .int .i64 0, .int .i64 0, .bool false, .string ⟨#[]⟩, .int .i64 0, .int .i64 7, .int .i64 8, .int .i64 0, .int .i64 0, .int .i64 0, .int .i64 0, .int .i64 0, .int .i64 0, .bool false, .string ⟨#[]⟩] 29)).alloc (.cells #[.int .i64 2, .int .i64 9, .int .i64 1, .int .i64 6, .int .i64 1, .int .i64 0] 36))) (g := w.heap.size + 1 + 1) (by simp)).below (below_alloc_on (Below.refl _ _) (.cells #[.int .i64 2, .int .i64 11, .int .i64 8] 36)))
  have HH := Lib.hid (tsH_lit (w := (((w.alloc (.cells #[.int .i64 0, .int .i64 3, .int .i64 0, .int .i64 0, .int .i64 0, .int .i64 0, .int .i64 0, .int .i64 0, .int .i64 0, .bool true, .string ⟨#[]⟩, .int .i64 0, .int .i64 3, .int .i64 0, .int .i64 0, .int .i64 0, .int .i64 0, .int .i64 0, .int .i64 0, .int .i64 0, .bool false, .string ⟨#[]⟩, .int .i64 0, .int .i64 7, .int .i64 8, .int .i64 0, .int .i64 0, .int .i64 0, .int .i64 0, .int .i64 0, .int .i64 0, .bool false, .string ⟨#[]⟩] 29)).alloc (.cells #[.int .i64 2, .int .i64 9, .int .i64 1, .int .i64 6, .int .i64 1, .int .i64 0] 36)).alloc (.cells #[.int .i64 2, .int .i64 1, .int .i64 3, .int .i64 2, .int .i64 9, .int .i64 1, .int .i64 8, .int .i64 0, .int .i64 0] 36))) (g := w.heap.size + 1 + 1 + 1) (by simp))
  clear A0 A1 A2 A3
  go_enter Try.func8, Try.ntmps8
  go_upto_region 5 with (fail)
  refine at_world (fun W => Below w.heap.size w W ∧ Outs W (some ⟨w.heap.size, 0, none⟩) 3 os7 ∧ Terms W (some ⟨w.heap.size + 1, 0, none⟩) 2 tsL ∧ Terms W (some ⟨w.heap.size + 1 + 1, 0, none⟩) 3 tsM ∧ Terms W (some ⟨w.heap.size + 1 + 1 + 1, 0, none⟩) 1 tsH) ⟨A4, HO.out, HL.out, HM.out, HH.out⟩ ?_
  clear A4 HO HL HM HH
  rintro W ⟨A0, hO, hL, hM, hH⟩
  have HO := Lib.hid (fun w' (hb : Below W.heap.size W w') => hO.below hb)
  have HL := Lib.hid (fun w' (hb : Below W.heap.size W w') => hL.below hb)
  have HM := Lib.hid (fun w' (hb : Below W.heap.size W w') => hM.below hb)
  have HH := Lib.hid (fun w' (hb : Below W.heap.size W w') => hH.below hb)
  have B0 : Below W.heap.size W W := Below.refl _ _
  clear hO hL hM hH
  go_wp2_with (fail)
  refine (ho_known 1 true (HL.out _ B0) (HO.out _ B0) (by omega) (by omega) (by omega) (by omega) (by kernel_rfl) (by kernel_rfl)).mono ?_
  rintro e w1 ⟨rfl, hb⟩
  have B1 := below_call B0 hb
  clear hb B0
  go_wp2_with (fail)
  refine (ho_known 2 false (HL.out _ B1) (HO.out _ B1) (by omega) (by omega) (by omega) (by omega) (by kernel_rfl) (by kernel_rfl)).mono ?_
  rintro e w2 ⟨rfl, hb⟩
  have B2 := below_call B1 hb
  clear hb B1
  go_wp2_with (fail)
  refine (ho_known 2 true (HM.out _ B2) (HO.out _ B2) (by omega) (by omega) (by omega) (by omega) (by kernel_rfl) (by kernel_rfl)).mono ?_
  rintro e w3 ⟨rfl, hb⟩
  have B3 := below_call B2 hb
  clear hb B2
  go_wp2_with (fail)
  refine (ho_known 2 true (HH.out _ B3) (HO.out _ B3) (by omega) (by omega) (by omega) (by omega) (by kernel_rfl) (by kernel_rfl)).mono ?_
  rintro e w4 ⟨rfl, hb⟩
  have B4 := below_call B3 hb
  clear hb B3
  go_wp2_with (fail)
  refine (ho_known 1 false (HH.out _ B4) (HO.out _ B4) (by omega) (by omega) (by omega) (by omega) (by kernel_rfl) (by kernel_rfl)).mono ?_
  rintro e w5 ⟨rfl, hb⟩
  have B5 := below_call B4 hb
  clear hb B4
  go_wp2_with (fail)
  refine (ho_holds_no none _ 0 0 3 3 0 _ _ (terms_nil _) (by kernel_rfl)).mono ?_
  rintro e w6 ⟨rfl, hb⟩
  have B6 := below_call B5 hb
  clear hb B5
  go_wp2_with (fail)
  refine (ho_holds_out _ _ 2 2 3 3 3 tsL _ (HL.out _ B6) (by omega)).mono ?_
  rintro e w7 ⟨rfl, hb⟩
  have B7 := below_call B6 hb
  clear hb B6
  go_wp2_with (fail)
  all_goals go_ret
  all_goals exact ⟨rfl, below_call A0 B7⟩
end Go.Proofs.Ytmemhlhjkpijpaa
