/- A range over a function whose iterator keeps what it is at in a cell of its own (strings.SplitSeq): the caller's law. The iterator's steps are a relation St: its own stores among them; what the caller says of the world must outlast them. -/
import Derived.Test.YtaccamlplikkfaaGreatDoorLift
import Derived.RangeFuncNested
import Derived.RangeFuncBound
import Derived.RangeFuncCalls
import Derived.RangeFuncLeaves
import Derived.RangeFuncBox
import Derived.RangeFuncWrites
import Derived.Shelf.Abstract
import Derived.Shelf.RegionOpen
import Derived.WalkKit
import Derived.OwnWalkIn
import Derived.TacticsInMore
import Derived.LoopNIn
import Derived.LoopIn
namespace Go.Proofs.YtaccamlplikkfaaGreatDoor
set_option maxRecDepth 100000
open Go.RowKit Go.Shelf
set_option linter.unusedVariables false
set_option linter.unusedSimpArgs false

/-- What an iterator with steps St tells: the whole, or a part behind which a round said no. -/
def ItSt {α : Type} (F : Fence) (n : Nat) (P : Program) (gf : Nat) (lb : Array Value) (encs : α → Array Value) (Kp St : World → World → Prop) (S Sp : List α → Prop) (N : Nat) (w : World) : Prop :=
  ∀ (l : Nat) (J Jx : List α → World → Prop) (W : World), Below w.heap.size w W → (∀ s A B, J s A → St A B → J s B) → (∀ s A B, Jx s A → St A B → Jx s B) →
    (∀ pre x V, J pre V → pre.length < N → YieldAt F (n - 1) P l (encs x) V fun e V' =>
      (e = .returned (.bool true) ∧ J (pre ++ [x]) V' ∧ Kp V V') ∨ (e = .returned (.bool false) ∧ Jx (pre ++ [x]) V')) →
    J [] W → CallsIn F n P gf (#[.func (.yield l) #[] #[]] ++ lb) W fun e W' => (∃ v, e = .returned v) ∧ ((∃ xs, S xs ∧ J xs W') ∨ ∃ pre, Sp pre ∧ Jx pre W')

theorem rf_steps {α : Type} {F : Fence} {n : Nat} {P : Program} {g : Operand} {ps : Array Tmp} {assign body : Code} {Q : Exit → Act → World → Prop} {a : Act} {w : World}
    (hro : F.round = none) (h1 : 1 ≤ n) {gf : Nat} {lb : Array Value} (hg : a.eval g = .func (.func gf) #[] lb) (hFg : F.fn gf) (eg : ∀ args w, (callFunc gf args).run P w = .ok (.enter gf args) w)
    {encs : α → Array Value} {Kp St : World → World → Prop} {S Sp : List α → Prop} {N : Nat} (it : ItSt F (n - 1) P gf lb encs Kp St S Sp N w)
    (hSt : ∀ A B, St A B → KeepsOthers A B)
    (hKt : ∀ {A B C : World}, Kp A B → Kp B C → Kp A C) (hKb : ∀ (W : World) (l : Nat) (o o' : Obj), w.heap.size ≤ l → W.heap[l]? = some o → o.isCells = false → o.isWalk = false → Kp W (W.putObj l o')) (hps : ∀ x, (encs x).size = ps.size)
    (I : List α → World → Prop) (Ix : Code → List α → World → Prop) (hI : OwnFrom w.heap.size I) (hIx : ∀ c, OwnFrom w.heap.size (Ix c)) (hIs : ∀ s A B, I s A → St A B → I s B) (hIxs : ∀ c s A B, Ix c s A → St A B → Ix c s B) (h0 : I [] w) (a₁ : α → Act)
    (hassign : ∀ (l : Nat) (x : α) (W : World) (K : Act → World → Prop), K (a₁ x) W →
      assign.wpIn (F.inRound l) (n - 1 - 1) P (Exit.then K (fun _ _ _ => False)) { tmps := (ps.zip (encs x)).foldl (fun t (p, v) => t.setIfInBounds p v) a.tmps, defers := [] } W)
    (hbody : ∀ (l : Nat) (pre : List α) (x : α) (W : World), I pre W → pre.length < N → body.wpIn (F.inRound l) (n - 1 - 1) P (ownPostK Kp I Ix (pre ++ [x]) W) (a₁ x) W)
    (hdone : ∀ (D : Nat) (xs : List α) (W : World), w.heap.size ≤ D → S xs → I xs W → W.heap[D]? = some (.deferred (some [])) → Q .normal { a with defers := { target := .collected D, args := #[] } :: a.defers } W)
    (hstop : ∀ (D : Nat) (c : Code) (pre : List α) (W : World), w.heap.size ≤ D → Sp pre → Ix c pre W → W.heap[D]? = some (.deferred (some [])) → c.wpIn F n P Q { a with defers := { target := .collected D, args := #[] } :: a.defers } W) :
    (Code.rangeFunc g ps assign body).wpIn F n P Q a w := by
  refine wpIn_rangeFunc fun fn hfn => ?_
  rw [hro]
  -- the loop's record, in each of its states
  obtain ⟨R, hR⟩ : ∃ R : LoopState → Option Code → Loop, R = fun st pe => { state := st, pending := pe, fn, tmps := a.tmps, params := ps, assign, body, defers := w.heap.size } := ⟨_, rfl⟩
  let M := w.heap.size
  let A := (w.alloc (.deferred (some []))).alloc (.loop (R .ready none))
  -- what is kept of the two blocks of the loop's own
  let Two : LoopState → Option Code → World → Prop := fun st pe W => W.heap[M + 1]? = some (.loop (R st pe)) ∧ W.heap[M]? = some (.deferred (some []))
  have two_kept : ∀ st pe X Y, Two st pe X → KeepsOthers X Y → Two st pe Y := fun st pe X Y h k => ⟨k.same _ _ h.1 rfl, k.same _ _ h.2 rfl⟩
  have two_put : ∀ st pe st' pe' X, Two st pe X → Two st' pe' (X.putObj (M + 1) (.loop (R st' pe'))) := fun st pe st' pe' X h =>
    ⟨World.putObj_heap_same (Array.getElem?_eq_some_iff.1 h.1).1, (World.putObj_heap_other (by omega)).trans h.2⟩
  have hA : Two .ready none A := by
    refine ⟨?_, (Below.heap_alloc _ _ _ (by show w.heap.size < _; simp)).trans (World.alloc_heap_new w _)⟩
    have := World.alloc_heap_new (w.alloc (.deferred (some []))) (.loop (R .ready none))
    rwa [World.size_alloc] at this
  have bA : Below w.heap.size w A := ((Below.refl _ w).alloc (Nat.le_refl _) _).alloc (by simp) _
  refine ⟨M + 1, [{ target := .collected M, args := #[] }], A, { target := .fn (.func gf) lb, args := #[.func (.yield (M + 1)) #[] #[]] }, A, gf, #[.func (.yield (M + 1)) #[] #[]] ++ lb, A, ?_, ?_, ?_, ?_, fun _ => h1, ?_⟩
  · show _ = Result.ok _ ((w.alloc (.deferred (some []))).alloc (.loop (R .ready none)))
    rw [hR]; exact run_enterLoop_outer _ _ _ _ _
  · simp only [resolve, hg]; simp [go_sem]
  · intro f' hf'; simp [Target.leads] at hf'; subst hf'; exact hFg
  · simp [invoke, go_sem, eg]
  refine (it (M + 1) (fun pre W => I pre W ∧ Two .ready none W) (fun pre W => ∃ c, Ix c pre W ∧ Two .done (some c) W) A bA
    (fun s X Y h k => ⟨hIs s X Y h.1 k, two_kept _ _ X Y h.2 (hSt X Y k)⟩) (fun s X Y ⟨c, h, t⟩ k => ⟨c, hIxs c s X Y h k, two_kept _ _ X Y t (hSt X Y k)⟩) ?_ ⟨hI.alloc _ (hI.alloc _ h0), hA⟩).mono ?_
  · rintro pre x W ⟨hi, ht⟩ hlen
    have hy := run_yield (P := P) (args := encs x) ht.1 (by rw [hR]; exact hps x)
    have ty : (R LoopState.ready none).tmps = a.tmps ∧ (R LoopState.ready none).params = ps ∧ (R LoopState.ready none).fn = fn ∧ (R LoopState.ready none).assign = assign ∧ (R LoopState.ready none).body = body := by rw [hR]; exact ⟨rfl, rfl, rfl, rfl, rfl⟩
    rw [ty.1, ty.2.1, ty.2.2.1, ty.2.2.2.1, ty.2.2.2.2] at hy
    have hb0 := run_beginRound (P := P) ht.1 (by rw [hR])
    have e0 : ({ R .ready none with state := .busy } : Loop) = R .busy none := by rw [hR]
    rw [e0] at hb0
    refine ⟨fn, _, assign, body, hy, roundIn_of_wpIn hfn (hassign _ x W _ ⟨_, hb0, ?_⟩)⟩
    have tb := two_put .ready none .busy none W ht
    have kb : Kp W (W.putObj (M + 1) (.loop (R .busy none))) := hKb _ _ _ _ (Nat.le_succ M) ht.1 rfl rfl
    refine wpIn_mono (hbody _ pre x _ (hI.putObj _ hi (Nat.le_succ M) ht.1 rfl) hlen) ?_
    -- a round's end: the record is written once more
    have fin : ∀ (j : Option Code) (X : World), KeepsOthers (W.putObj (M + 1) (.loop (R .busy none))) X →
        ∃ st, st = (if j.isNone then LoopState.ready else LoopState.done) ∧ Two .busy none X ∧ (Instr.endRound (M + 1) j).run P X = .ok (.bool j.isNone) (X.putObj (M + 1) (.loop (R st j))) ∧ Two st j (X.putObj (M + 1) (.loop (R st j))) := fun j X k => by
      have tX := two_kept _ _ _ X tb k
      refine ⟨_, rfl, tX, ?_, two_put _ _ _ _ X tX⟩
      have := run_endRound (P := P) j tX.1
      rw [hR] at this ⊢
      exact this
    rintro e a3 X hp
    cases e with
    | normal =>
      obtain ⟨k, kp, hi3⟩ := hp
      obtain ⟨st, rfl, tX, hr, t2⟩ := fin none X k
      exact ⟨_, _, hr, .inl ⟨rfl, ⟨hI.putObj _ hi3 (Nat.le_succ M) tX.1 rfl, t2⟩, hKt (hKt kb kp) (hKb _ _ _ _ (Nat.le_succ M) tX.1 rfl rfl)⟩⟩
    | ret =>
      obtain ⟨k, hi3⟩ := hp
      obtain ⟨st, rfl, tX, hr, t2⟩ := fin (some .ret) X k
      exact ⟨_, _, hr, .inr ⟨rfl, .ret, (hIx _).putObj _ hi3 (Nat.le_succ M) tX.1 rfl, t2⟩⟩
    | exit id =>
      obtain ⟨k, hi3⟩ := hp
      obtain ⟨st, rfl, tX, hr, t2⟩ := fin (some (.exit id)) X k
      exact ⟨_, _, hr, .inr ⟨rfl, .exit id, (hIx _).putObj _ hi3 (Nat.le_succ M) tX.1 rfl, t2⟩⟩
    | goto t =>
      obtain ⟨k, hi3⟩ := hp
      obtain ⟨st, rfl, tX, hr, t2⟩ := fin (some (.goto t)) X k
      exact ⟨_, _, hr, .inr ⟨rfl, .goto t, (hIx _).putObj _ hi3 (Nat.le_succ M) tX.1 rfl, t2⟩⟩
    | panic ch => exact hp.elim
    | outgrown => exact hp.elim
  · rintro e X ⟨⟨v, rfl⟩, ⟨xs, hS, hi, ht⟩ | ⟨pre, hSp, c, hi, ht⟩⟩
    · exact ⟨none, _, by have := run_endLoop (P := P) ht.1 (by rw [hR]; simp); rw [hR] at this; exact this, hdone M xs _ (Nat.le_refl _) hS (hI.putObj _ hi (Nat.le_succ M) ht.1 rfl) ((World.putObj_heap_other (by omega)).trans ht.2)⟩
    · exact ⟨some c, _, by have := run_endLoop (P := P) ht.1 (by rw [hR]; simp); rw [hR] at this; exact this, hstop M c pre _ (Nat.le_refl _) hSp ((hIx c).putObj _ hi (Nat.le_succ M) ht.1 rfl) ((World.putObj_heap_other (by omega)).trans ht.2)⟩
end Go.Proofs.YtaccamlplikkfaaGreatDoor
