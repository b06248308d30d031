/- Buckets as they lie; Sum, and the document's. -/
import Derived.Test.YtjhdlcemeemlhaaSatLaws
import Derived.Test.YtjhdlcemeemlhaaBox
import Derived.Test.YtjhdlcemeemlhaaLeaf
namespace Go.Proofs.Ytjhdlcemeemlhaa
open Go.RowKit
set_option linter.unusedVariables false
set_option linter.unusedSimpArgs false
set_option maxRecDepth 100000
attribute [local go_sem] cell_set_ite

structure Bk where
  power : Int
  minute : Int
  ticks : Int
  drops : Int
  least : Int
  most : Int
  volume : Int
def bkC (b : Bk) : List Value := [.int .i64 b.power, .int .i64 b.minute, .int .i64 b.ticks, .int .i64 b.drops, .int .i64 b.least, .int .i64 b.most, .int .i64 b.volume]
def Bks (w : World) (A : Option Addr) (n : Nat) (f : Nat → Bk) : Prop :=
  0 < n → ∃ b off, A = some ⟨b, off, none⟩ ∧ b < w.heap.size ∧ ∀ i, i < n → ∀ j, j < 7 → w.cell? ⟨b, off + i * 7 + j, none⟩ = (bkC (f i))[j]?
theorem Bks.below {w w' : World} {A : Option Addr} {n : Nat} {f : Nat → Bk} (h : Bks w A n f) (hb : Below w.heap.size w w') : Bks w' A n f := fun h0 => by
  obtain ⟨b, off, e, hl, hc⟩ := h h0
  exact ⟨b, off, e, Nat.lt_of_lt_of_le hl hb.size, fun i hi j hj => (hb.cell (p := ⟨b, off + i * 7 + j, none⟩) hl).trans (hc i hi j hj)⟩
theorem Bks.at_ {w : World} {A : Option Addr} {n : Nat} {f : Nat → Bk} (h : Bks w A n f) (h0 : 0 < n) : ∃ b off, A = some ⟨b, off, none⟩ ∧ b < w.heap.size ∧ ∀ i, i < n →
    w.cell? ⟨b, off + i * 7, none⟩ = some (.int .i64 (f i).power) ∧ w.cell? ⟨b, off + i * 7 + 1, none⟩ = some (.int .i64 (f i).minute) ∧ w.cell? ⟨b, off + i * 7 + 2, none⟩ = some (.int .i64 (f i).ticks) ∧
    w.cell? ⟨b, off + i * 7 + 3, none⟩ = some (.int .i64 (f i).drops) ∧ w.cell? ⟨b, off + i * 7 + 4, none⟩ = some (.int .i64 (f i).least) ∧ w.cell? ⟨b, off + i * 7 + 5, none⟩ = some (.int .i64 (f i).most) ∧
    w.cell? ⟨b, off + i * 7 + 6, none⟩ = some (.int .i64 (f i).volume) := by
  obtain ⟨b, off, e, hl, hc⟩ := h h0
  exact ⟨b, off, e, hl, fun i hi => ⟨hc i hi 0 (by omega), hc i hi 1 (by omega), hc i hi 2 (by omega), hc i hi 3 (by omega), hc i hi 4 (by omega), hc i hi 5 (by omega), hc i hi 6 (by omega)⟩⟩
/-- The sums of the first k buckets. -/
def tkV (f : Nat → Bk) : Nat → Int
  | 0 => 0
  | k + 1 => addV (tkV f k) (f k).ticks
def dpV (f : Nat → Bk) : Nat → Int
  | 0 => 0
  | k + 1 => addV (dpV f k) (f k).drops
set_option maxHeartbeats 2000000 in
theorem tr_sum (A : Option Addr) (n c : Nat) (f : Nat → Bk) (w : World) (h : Bks w A n f) (hc : n ≤ c) (hn : n ≤ 100000) :
    Calls Try.prog 5 #[.slice A n c] w fun e w' => e = .returned (.tuple #[.int .i64 (tkV f n), .int .i64 (dpV f n)]) ∧ Below w.heap.size w w' := by
  have D0 : Below w.heap.size w w := Below.refl _ _
  have HI := Lib.hid h
  clear h
  go_enter Try.func5, Try.ntmps5
  go_wp2_with (fail)
  go_loopw [4, 5, 7, 10] (fun t d _ i wr => ∃ k : Nat, k ≤ n ∧ i = .int .i64 k ∧ t = .int .i64 (tkV f k) ∧ d = .int .i64 (dpV f k) ∧ Below w.heap.size w wr) (fun _ _ _ i _ => n - (intOf i).toNat)
  case atStart => exact ⟨0, Nat.zero_le _, rfl, rfl, rfl, D0⟩
  case round =>
    obtain ⟨k, hk, rfl, rfl, rfl, A1⟩ := hrel
    by_cases hlt : k < n
    · obtain ⟨b, off, rfl, hb, hcell⟩ := HI.out.at_ (by omega)
      obtain ⟨q0, q1, q2, q3, q4, q5, q6⟩ := hcell k hlt
      have c0 := (A1.cell (p := ⟨b, off + k * 7, none⟩) hb).trans q0
      have c1 := (A1.cell (p := ⟨b, off + k * 7 + 1, none⟩) hb).trans q1
      have c2 := (A1.cell (p := ⟨b, off + k * 7 + 2, none⟩) hb).trans q2
      have c3 := (A1.cell (p := ⟨b, off + k * 7 + 3, none⟩) hb).trans q3
      have c4 := (A1.cell (p := ⟨b, off + k * 7 + 4, none⟩) hb).trans q4
      have c5 := (A1.cell (p := ⟨b, off + k * 7 + 5, none⟩) hb).trans q5
      have c6 := (A1.cell (p := ⟨b, off + k * 7 + 6, none⟩) hb).trans q6
      have KT := Lib.hid fun w => sat_add (tkV f k) (f k).ticks w
      have KD := Lib.hid fun w => sat_add (dpV f k) (f k).drops w
      have HT := Lib.hid (show addV (tkV f k) (f k).ticks = tkV f (k + 1) from rfl)
      have HD := Lib.hid (show addV (dpV f k) (f k).drops = dpV f (k + 1) from rfl)
      clear q0 q1 q2 q3 q4 q5 q6 hcell
      rw [HT.out] at KT
      rw [HD.out] at KD
      obtain ⟨t1, ht1⟩ : ∃ t1, tkV f (k + 1) = t1 := ⟨_, rfl⟩
      obtain ⟨d1, hd1⟩ : ∃ d1, dpV f (k + 1) = d1 := ⟨_, rfl⟩
      rw [ht1] at KT
      rw [hd1] at KD
      have H1 := Lib.hid ht1
      have H2 := Lib.hid hd1
      clear ht1 hd1 HT HD
      generalize tkV f k = t0 at *
      generalize dpV f k = d0 at *
      go_wp2_with (fail)
      refine (KT.out _).mono ?_
      rintro e w1 ⟨rfl, rfl⟩
      go_wp2_with (fail)
      refine (KD.out _).mono ?_
      rintro e w2 ⟨rfl, rfl⟩
      go_wp2_with (fail)
      go_roundw
      case rel => exact ⟨k + 1, by omega, by go_num, by rw [H1.out], by rw [H2.out], below_alloc_on A1 _⟩
      case measure => simp [intOf]; omega
    · obtain rfl : k = n := by omega
      go_wp2_with (fail)
      all_goals go_ret2
      all_goals exact ⟨rfl, A1⟩
set_option maxHeartbeats 2000000 in
theorem rt_sum (A : Option Addr) (n c : Nat) (f : Nat → Bk) (w : World) (h : Bks w A n f) (hc : n ≤ c) (hn : n ≤ 100000) :
    Calls Try.prog 6 #[.slice A n c] w fun e w' => e = .returned (.tuple #[.int .i64 (tkV f n), .int .i64 (dpV f n)]) ∧ Below w.heap.size w w' := by
  have D0 : Below w.heap.size w w := Below.refl _ _
  have HI := Lib.hid h
  clear h
  go_enter Try.func6, Try.ntmps6
  go_wp2_with (fail)
  go_loopw [4, 5, 6, 7, 8, 9, 10, 13] (fun t d _ _ _ _ _ i wr => ∃ k : Nat, k ≤ n ∧ i = .int .i64 k ∧ t = .int .i64 (tkV f k) ∧ d = .int .i64 (dpV f k) ∧ Below w.heap.size w wr) (fun _ _ _ _ _ _ _ i _ => n - (intOf i).toNat)
  case atStart => exact ⟨0, Nat.zero_le _, rfl, rfl, rfl, D0⟩
  case round =>
    obtain ⟨k, hk, rfl, rfl, rfl, A1⟩ := hrel
    by_cases hlt : k < n
    · obtain ⟨b, off, rfl, hb, hcell⟩ := HI.out.at_ (by omega)
      obtain ⟨q0, q1, q2, q3, q4, q5, q6⟩ := hcell k hlt
      have c0 := (A1.cell (p := ⟨b, off + k * 7, none⟩) hb).trans q0
      have c1 := (A1.cell (p := ⟨b, off + k * 7 + 1, none⟩) hb).trans q1
      have c2 := (A1.cell (p := ⟨b, off + k * 7 + 2, none⟩) hb).trans q2
      have c3 := (A1.cell (p := ⟨b, off + k * 7 + 3, none⟩) hb).trans q3
      have c4 := (A1.cell (p := ⟨b, off + k * 7 + 4, none⟩) hb).trans q4
      have c5 := (A1.cell (p := ⟨b, off + k * 7 + 5, none⟩) hb).trans q5
      have c6 := (A1.cell (p := ⟨b, off + k * 7 + 6, none⟩) hb).trans q6
      have KT := Lib.hid fun w => ref_add (tkV f k) (f k).ticks w
      have KD := Lib.hid fun w => ref_add (dpV f k) (f k).drops w
      have HT := Lib.hid (show addV (tkV f k) (f k).ticks = tkV f (k + 1) from rfl)
      have HD := Lib.hid (show addV (dpV f k) (f k).drops = dpV f (k + 1) from rfl)
      clear q0 q1 q2 q3 q4 q5 q6 hcell
      rw [HT.out] at KT
      rw [HD.out] at KD
      obtain ⟨t1, ht1⟩ : ∃ t1, tkV f (k + 1) = t1 := ⟨_, rfl⟩
      obtain ⟨d1, hd1⟩ : ∃ d1, dpV f (k + 1) = d1 := ⟨_, rfl⟩
      rw [ht1] at KT
      rw [hd1] at KD
      have H1 := Lib.hid ht1
      have H2 := Lib.hid hd1
      clear ht1 hd1 HT HD
      generalize tkV f k = t0 at *
      generalize dpV f k = d0 at *
      go_wp2_with (fail)
      refine (KT.out _).mono ?_
      rintro e w1 ⟨rfl, rfl⟩
      go_wp2_with (fail)
      refine (KD.out _).mono ?_
      rintro e w2 ⟨rfl, rfl⟩
      go_wp2_with (fail)
      go_roundw
      case rel => exact ⟨k + 1, by omega, by go_num, by rw [H1.out], by rw [H2.out], A1⟩
      case measure => simp [intOf]; omega
    · obtain rfl : k = n := by omega
      go_wp2_with (fail)
      all_goals go_ret2
      all_goals exact ⟨rfl, A1⟩
end Go.Proofs.Ytjhdlcemeemlhaa
