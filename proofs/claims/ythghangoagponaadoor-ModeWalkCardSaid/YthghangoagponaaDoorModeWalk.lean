/- ModeWalk holds of every list of turns: it has run only if it began; it infuses only with a programme accepted; who stops, and clears, is idle. No condition. -/
import Derived.Test.YthghangoagponaaDoorLaid
import Derived.Test.YthghangoagponaaDoorCards
import Derived.Test.YthghangoagponaaDoorTie
import Derived.Test.YthghangoagponaaDoorMode
import Derived.Test.YthghangoagponaaDoorNums
namespace Go.Proofs.YthghangoagponaaDoor.modeWalk
open Go.ChangeShapes Go.WideShapes Go.ChangeAt Go.RowKit
set_option linter.unusedVariables false
set_option linter.unusedSimpArgs false

theorem words {W : World} (h : laidMetH Tryd.prog Rows.modeWalkRow.laid W) : Words W 0 mdNames :=
  words_of (by kernel_rfl) (by kernel_rfl) Tryd.underlying59 Tryd.underlying9 (by kernel_rfl) rfl (by decide) h
/-- What stands behind each turn. -/
def Ok (m : Int) (g a : Bool) : Prop := 1 ≤ m ∧ m ≤ 7 ∧ (acB m = true → a = true) ∧ (a = true → g = true)
theorem shape {m t n : Int} {a : Bool} (hn : nxV m t a = n) (m0 : 1 ≤ m) (m1 : m ≤ 7) : 1 ≤ n ∧ n ≤ 7 ∧ (t = 4 → m ≠ 7 → n = 1) ∧ (m = 7 → n = 7 ∨ n = 1 ∨ (n = 4 ∧ a = true)) ∧
    ((n = 5 ∨ n = 6) → (m = 3 ∨ m = 5 ∨ m = 6)) ∧ (n = 3 → m = 3 ∨ ((m = 1 ∨ m = 4) ∧ t = 2)) ∧ (n = 4 → m = 3 ∨ m = 4 ∨ (m = 7 ∧ a = true)) := by
  unfold nxV at hn
  by_cases h0 : m < 1 ∨ 7 < m ∨ t = 5
  · rw [if_pos h0] at hn; omega
  rw [if_neg h0] at hn
  by_cases h7 : m = 7
  · rw [if_pos h7] at hn
    unfold leV at hn
    cases a <;> simp only [if_true, if_false, Bool.false_eq_true] at hn <;> (repeat' split at hn) <;> simp <;> omega
  rw [if_neg h7] at hn
  by_cases h4 : t = 4
  · rw [if_pos h4] at hn; omega
  rw [if_neg h4] at hn
  unfold tuV idV prV ruV at hn
  rcases (by omega : m = 1 ∨ m = 2 ∨ m = 3 ∨ m = 4 ∨ m = 5 ∨ m = 6) with rfl | rfl | rfl | rfl | rfl | rfl
  all_goals simp only [if_true, if_false, reduceIte, Int.reduceEq] at hn
  all_goals (repeat' split at hn)
  all_goals omega
/-- The end: whatever the mode, a hazard, then clear, then stop, is idle. -/
theorem last (m : Int) : nxV (nxV (nxV m 5 true) 6 true) 4 true = 1 := by
  have : nxV m 5 true = 7 := by unfold nxV; rw [if_pos (by omega)]
  rw [this]; rfl

/-- What stands behind a turn, as far as the law asks. -/
theorem ways {m t : Int} {g a : Bool} (h : Ok m g a) : ∃ n, nxV m t a = n ∧
    ((n = 1) ∨ (n = 2 ∧ m ≠ 7 ∧ t ≠ 4) ∨ (n = 3 ∧ m ≠ 7 ∧ t ≠ 4 ∧ (g = true ∨ (g = false ∧ t = 2))) ∨ (n = 4 ∧ a = true ∧ g = true ∧ (m = 7 ∨ t ≠ 4)) ∨ (n = 5 ∧ a = true ∧ g = true ∧ m ≠ 7 ∧ t ≠ 4) ∨ (n = 6 ∧ a = true ∧ g = true ∧ m ≠ 7 ∧ t ≠ 4) ∨ (n = 7 ∧ (m = 7 ∨ t ≠ 4))) := by
  obtain ⟨n, hn⟩ : ∃ n, nxV m t a = n := ⟨_, rfl⟩
  obtain ⟨m0, m1, ha, hg⟩ := h
  obtain ⟨n0, n1, h4, h7, h56, h3, h44⟩ := shape hn m0 m1
  have acc : (m = 3 ∨ m = 5 ∨ m = 4 ∨ m = 6) → a = true := fun h => ha (decide_eq_true h)
  refine ⟨n, hn, ?_⟩
  rcases (by omega : n = 1 ∨ n = 2 ∨ n = 3 ∨ n = 4 ∨ n = 5 ∨ n = 6 ∨ n = 7) with rfl | rfl | rfl | rfl | rfl | rfl | rfl
  · exact .inl rfl
  · exact .inr (.inl ⟨rfl, by omega, by omega⟩)
  · refine .inr (.inr (.inl ⟨rfl, by omega, by omega, ?_⟩))
    rcases h3 rfl with e | ⟨_, e⟩
    · exact .inl (hg (acc (by omega)))
    · cases g
      · exact .inr ⟨rfl, e⟩
      · exact .inl rfl
  · have ea : a = true := by
      rcases h44 rfl with e | e | ⟨_, e⟩
      · exact acc (by omega)
      · exact acc (by omega)
      · exact e
    exact .inr (.inr (.inr (.inl ⟨rfl, ea, hg ea, by omega⟩)))
  · have ea := acc (by have := h56 (.inl rfl); omega)
    exact .inr (.inr (.inr (.inr (.inl ⟨rfl, ea, hg ea, by omega, by omega⟩))))
  · have ea := acc (by have := h56 (.inr rfl); omega)
    exact .inr (.inr (.inr (.inr (.inr (.inl ⟨rfl, ea, hg ea, by omega, by omega⟩)))))
  · exact .inr (.inr (.inr (.inr (.inr (.inr ⟨rfl, by omega⟩)))))

set_option maxHeartbeats 4000000 in
set_option maxRecDepth 100000 in
theorem some_ (W : World) (A : Option Addr) (n c : Nat) (xs : List Int) (hi : Nums .u8 W A n xs) (hc : n ≤ c) (hn : n ≤ 100) (hw : ∀ x ∈ xs, (Lit.int .u8 x).wf = true) (hL : Words W 0 mdNames) :
    Calls Tryd.prog 5 #[.slice A n c] W fun e W' => e = .returned (.bool true) ∧ Below W.heap.size W W' := by
  have HI := Lib.hid hi
  have HN := Lib.hid hL
  have HX := Lib.hid (show ∀ j : Nat, j < n → 0 ≤ xs.getD j 0 ∧ xs.getD j 0 ≤ 255 from fun j hj => by
    have hj' : j < xs.length := by have := hi.1; omega
    have h := hw (xs.getD j 0) (by simp [List.getD, List.getElem?_eq_getElem hj'])
    simp only [Lit.wf, IntKind.min, IntKind.max, IntKind.signed, IntKind.bits, Bool.and_eq_true] at h
    simpa using h)
  have t0 : decide (100 < (n : Int)) = false := decide_eq_false (by omega)
  clear hi hw hL
  go_enter Tryd.func5, Tryd.ntmps5
  go_wp2
  go_loopw [3, 4, 5, 15] (fun m g a i wr => ∃ (j : Nat) (M : Int) (G B : Bool), j ≤ n ∧ i = .int .i64 j ∧ m = .int .i64 M ∧ g = .bool G ∧ a = .bool B ∧ Ok M G B ∧ W = wr) (fun _ _ _ i _ => n - (intOf i).toNat)
  case atStart => exact ⟨0, 1, false, false, Nat.zero_le _, rfl, rfl, rfl, rfl, ⟨by decide, by decide, by decide, by decide⟩, by trivial⟩
  case round =>
    obtain ⟨j, M, G, B, hj, rfl, rfl, rfl, rfl, hok, rfl⟩ := hrel
    by_cases hlt : j < n
    · obtain ⟨b, off, rfl, hbs, hcell⟩ := HI.out.at_ hlt
      obtain ⟨x0, x1⟩ := HX.out j hlt
      generalize xs.getD j 0 = x at *
      obtain ⟨T, hT⟩ : ∃ T, x % 9 = T := ⟨_, rfl⟩
      have T0 : 0 ≤ T := by omega
      have T1 : T ≤ 8 := by omega
      have i1 : inB 1 = false := rfl
      have i2 : inB 2 = false := rfl
      have i3 : inB 3 = true := rfl
      have i4 : inB 4 = false := rfl
      have i5 : inB 5 = true := rfl
      have i6 : inB 6 = false := rfl
      have i7 : inB 7 = false := rfl
      have o1 : opB 1 = false := rfl
      have o2 : opB 2 = true := rfl
      have o3 : opB 3 = true := rfl
      have o4 : opB 4 = false := rfl
      have o5 : opB 5 = true := rfl
      have o6 : opB 6 = false := rfl
      have o7 : opB 7 = false := rfl
      have a1 : acB 1 = false := rfl
      have a2 : acB 2 = false := rfl
      have a3 : acB 3 = true := rfl
      have a4 : acB 4 = true := rfl
      have a5 : acB 5 = true := rfl
      have a6 : acB 6 = true := rfl
      have a7 : acB 7 = false := rfl
      obtain ⟨N, hN, hway⟩ := ways (t := T) hok
      have HK := Lib.hid (fun w => md_next M T B w)
      rw [hN] at HK
      clear hN
      have hBG : B = true → G = true := hok.2.2.2
      clear hok
      rcases hway with rfl | ⟨rfl, h1, h2⟩ | ⟨rfl, h1, h2, h3⟩ | ⟨rfl, rfl, rfl, h1⟩ | ⟨rfl, rfl, rfl, h1, h2⟩ | ⟨rfl, rfl, rfl, h1, h2⟩ | ⟨rfl, h1⟩
      all_goals by_cases hm : M = 7
      all_goals (try (exfalso; omega))
      all_goals by_cases ht : T = 4
      all_goals (try (exfalso; omega))
      all_goals first
        | (have s1 : (M == 7) = false := by simpa using hm)
        | (have s1 : (M == 7) = true := by simpa using hm)
      all_goals first
        | (have s2 : (T == 4) = false := by simpa using ht)
        | (have s2 : (T == 4) = true := by simpa using ht)
      all_goals (try have s3 : (M != 7) = true := by simpa using hm)
      all_goals (try have s3 : (M != 7) = false := by simpa using hm)
      all_goals (try cases G)
      all_goals (try (exfalso; simp_all; done))
      all_goals by_cases h22 : T = 2
      all_goals (try (exfalso; simp_all; done))
      all_goals (try (exfalso; omega))
      all_goals first
        | (have s4 : (T == 2) = false := by simpa using h22)
        | (have s4 : (T == 2) = true := by simpa using h22)
      all_goals (try cases B)
      all_goals (try (exfalso; simp_all; done))
      all_goals (try clear h1)
      all_goals (try clear h2)
      all_goals (try clear h3)
      all_goals clear hBG hm ht h22
      all_goals go_wp2_with (first
        | (go_at_call 11; (with_reducible refine (HK.out _).mono ?_); rintro e w' ⟨rfl, rfl⟩)
        | (go_at_call 15; refine (md_infuses _ _).mono ?_; rintro e w' ⟨rfl, rfl⟩)
        | (go_at_call 13; refine (md_opens _ _).mono ?_; rintro e w' ⟨rfl, rfl⟩)
        | (go_at_call 17; refine (md_accepts _ _).mono ?_; rintro e w' ⟨rfl, rfl⟩))
      all_goals go_roundw
      all_goals first
        | (case measure => simp [intOf]; omega)
        | skip
      all_goals exact ⟨j + 1, _, _, _, by omega, by go_num, rfl, rfl, rfl, ⟨by decide, by decide, by decide, by decide⟩, by trivial⟩
    · obtain rfl : j = n := by omega
      have e1 := last M
      go_wp2_with (first
        | (go_at_call 11; refine (md_next _ _ _ _).mono ?_; rintro e w' ⟨rfl, rfl⟩)
        | (go_at_call 21; refine (law37_awake _ HN.out).mono ?_; rintro e w' ⟨rfl, rfl⟩))
      all_goals go_ret
      all_goals exact ⟨rfl, Below.refl _ _⟩
theorem walk (W : World) (A : Option Addr) (n c : Nat) (xs : List Int) (hi : Nums .u8 W A n xs) (hc : n ≤ c) (hr : n * 1 ≤ 140737488351232) (hw : ∀ x ∈ xs, (Lit.int .u8 x).wf = true) (hL : laidMetH Tryd.prog Rows.modeWalkRow.laid W) :
    Calls Tryd.prog 5 #[.slice A n c] W fun e W' => e = .returned (.bool true) ∧ Below W.heap.size W W' := by
  have HN := Lib.hid (words hL)
  by_cases h : 100 < n
  · have t1 : decide (100 < (n : Int)) = true := decide_eq_true (by omega)
    clear hi hw hL
    go_enter Tryd.func5, Tryd.ntmps5
    go_wp2_with (go_at_call 21; refine (law37_awake _ HN.out).mono ?_; rintro e w' ⟨rfl, rfl⟩)
    all_goals go_ret
    all_goals exact ⟨rfl, Below.refl _ _⟩
  · exact some_ W A n c xs hi hc (by omega) hw HN.out

theorem door_met (os : Os) (args : Array Value) : laidMetH Tryd.prog Rows.modeWalkRow.laid ((World.doorLaid Tryd.prog 39 os).forCall (fun _ _ => 0) ⟨#[], args, []⟩).memory :=
  laidMetH_of_parts3 (fuel := 8) (laidMet_of_run' 8 (by kernel_rfl) (by kernel_rfl)) (by kernel_rfl) (by kernel_rfl)
set_option maxRecDepth 100000 in
theorem lifted (os : Os) (started : os.Started) (H : Type) (enc : TypeId × Value → H) :
    ReturnsInHanded {} Tryd.checked os 5 .any (fun w args => (Rows.modeWalkSpec.pre enc Tryd.prog Tryd.f5 [] false w args ∧ laidMetH Tryd.prog Rows.modeWalkRow.laid w) ∧ sizedMet enc Tryd.prog Tryd.f5 (OpenSpec.ofChange Rows.modeWalkSpec) false w args) (Rows.modeWalkSpec.post enc Tryd.prog Tryd.f5 false true false false) := by
  refine law_lift_laid (laid := Rows.modeWalkRow.laid) started (by kernel_rfl) Tryd.func5 rfl rfl ?_ (by kernel_rfl)
    (ChangeSpec.witness_shaped (enc := enc) (C := Tryd.checked) (os := os) (X := fun w _ => laidMetH Tryd.prog Rows.modeWalkRow.laid w) false (World.doorLaid Tryd.prog 39 os) #[.slice none 0 0] 8 rfl (World.shaped_of_RefB (by kernel_rfl) (by kernel_rfl)) (by kernel_rfl) (by kernel_rfl) (by kernel_rfl) (door_met os _)) ?_
  · intro ds hl
    match ds, hl with
    | [_], _ => exact ⟨rfl, rfl, rfl⟩
  · intro W base args ds p hval hA hlt hwt hL
    rw [Tryd.params5] at hA hval hwt
    obtain ⟨v0, vs0, d0, ds0, p0, q0, hargs, rfl, rfl, h0, r0⟩ := trodAll_cons hA
    obtain ⟨rfl, rfl, rfl⟩ := trodAll_nil r0
    obtain rfl : args = #[v0] := by cases args; simp_all
    have wt0 : ∀ n ∈ d0.weights Tryd.prog 27, n ≤ reachBytes := fun n hn => by
      have := List.all_eq_true.1 hwt n (DataW.weights_mem_each (j := 0) (t := 27) (d := d0) rfl rfl n hn)
      simpa using this
    have lt0 : ∀ x ∈ p0, x.block < W.heap.size := fun x hx => hlt x (by simp [hx])
    obtain ⟨A0, n0, c0, xs0, rfl, hi0, hc0, hr0, w0⟩ := open_nums_arg Tryd.underlying27 Tryd.underlying5 (by kernel_rfl) (by kernel_rfl) (hval 0 27 v0 rfl rfl) h0 lt0 wt0
    exact walk W A0 n0 c0 xs0 hi0 hc0 hr0 w0 hL

theorem over : Rows.modeWalkRow.holds Tryd.pinned (OpenSpec.ofChange Rows.modeWalkSpec) :=
  OpenClaim.holds_of_wide 5 Tryd.f5 rfl rfl rfl rfl rfl rfl rfl ⟨rfl, rfl, rfl, rfl, rfl⟩ rfl rfl rfl rfl rfl (by kernel_rfl) Tryd.func5 (by kernel_rfl)
    (of_decide_eq_true (by kernel_rfl)) (by unfold Func.isWrapper; first | (rw [if_pos (by decide +kernel)]; kernel_rfl) | (rw [if_neg (by decide +kernel)]; exact ⟨rfl, rfl⟩))
    (fun os started H enc _ => lifted os started H enc)

theorem plain (f : FuncId) (fn : Func) (hf : Tryd.pinned.checked.prog.funcNamed "pinchcock/pinchcocklaw37.ModeWalk" = some f) (hfn : Tryd.pinned.checked.prog.funcs[f]? = some fn) :
    false = Tryd.pinned.checked.prog.looks [] ∧ ∀ (j : Nat) t, fn.params[j]? = some t → Tryd.pinned.checked.prog.wantsStandIn t = false := by
  obtain rfl : f = 5 := Option.some.inj ((show Tryd.prog.funcNamed "pinchcock/pinchcocklaw37.ModeWalk" = some 5 by kernel_rfl).symm.trans hf) |>.symm
  obtain rfl : fn = Tryd.f5 := (Option.some.inj (Tryd.func5.symm.trans hfn)).symm
  refine ⟨by kernel_rfl, fun j t ht => ?_⟩
  rw [Tryd.params5] at ht
  have hm : t ∈ [27] := by simpa using Array.mem_of_getElem? ht
  have hall : ([27].all fun u => !Tryd.prog.wantsStandIn u) = true := by kernel_rfl
  exact (show Tryd.prog.wantsStandIn t = false by simpa using List.all_eq_true.1 hall t hm)
theorem proved : Rows.ModeWalkCardSaid :=
  Claim7.holds_tied_plain_at .later [] _ _ _ _ over (fun _ h => by cases h) (by kernel_rfl) (fun _ h => by cases h) modeWalk_row_tie rfl ⟨rfl, rfl⟩ (by kernel_rfl) rfl plain (by kernel_rfl)
#print axioms proved
end Go.Proofs.YthghangoagponaaDoor.modeWalk
