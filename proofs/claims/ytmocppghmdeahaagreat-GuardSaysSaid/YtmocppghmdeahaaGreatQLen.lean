/- Contract of math/bits.Len64 as the program's own dump has it: a table's byte, and what was shifted away. -/
import Derived.Test.YtmocppghmdeahaaGreatRows
import Derived.Lib.Strings
import Derived.Lib.Slices
import Derived.Lib.Small
import Derived.Lib.Walk
import Derived.Lib.BitFns
namespace Go.Proofs.YtmocppghmdeahaaGreat
set_option maxRecDepth 100000
set_option linter.unusedVariables false
set_option linter.unusedSimpArgs false

theorem bitLen64_le (x : Int) (h1 : x ≤ 18446744073709551615) : Lib.bitLen x.toNat ≤ 64 := Lib.bitLen_le x.toNat 64 (by omega) (by omega)

/-- The table's byte at what is left of x behind a shift by k. -/
theorem len_of (k : Nat) (x c : Int) (h0 : 0 ≤ x) (h1 : x ≤ 18446744073709551615) (hk : k = 0 ∨ 2 ^ k ≤ x.toNat) (hc : c.toNat = x.toNat / 2 ^ k) (c0 : 0 ≤ c) (c1 : c ≤ 255) :
    Lib.len8 c = (Lib.bitLen x.toNat : Int) - k := by
  rw [Lib.len8_of c c0 c1, hc]
  rcases hk with rfl | hk
  · simp
  · rw [Lib.bitLen_shift k x.toNat hk (by omega)]; omega

set_option maxHeartbeats 4000000 in
set_option maxRecDepth 100000 in
theorem bits_len64 (x : Int) (w : World) (h0 : 0 ≤ x) (h1 : x ≤ 18446744073709551615) :
    Calls Tryz.prog 109 #[.int .u64 x] w fun e w' => e = .returned (.int .i64 (Lib.bitLen x.toNat)) ∧ w = w' := by
  have hle := bitLen64_le x h1
  go_enter Tryz.func109, Tryz.ntmps109
  go_wp2
  all_goals go_ret
  all_goals refine ⟨congrArg (fun n => Ending.returned (Value.int IntKind.i64 n)) ?_, rfl⟩
  all_goals first
    | (rw [len_of 56 x _ h0 h1 (by omega) (by omega) (by omega) (by omega)]; omega)
    | (rw [len_of 48 x _ h0 h1 (by omega) (by omega) (by omega) (by omega)]; omega)
    | (rw [len_of 40 x _ h0 h1 (by omega) (by omega) (by omega) (by omega)]; omega)
    | (rw [len_of 32 x _ h0 h1 (by omega) (by omega) (by omega) (by omega)]; omega)
    | (rw [len_of 24 x _ h0 h1 (by omega) (by omega) (by omega) (by omega)]; omega)
    | (rw [len_of 16 x _ h0 h1 (by omega) (by omega) (by omega) (by omega)]; omega)
    | (rw [len_of 8 x _ h0 h1 (by omega) (by omega) (by omega) (by omega)]; omega)
    | (rw [len_of 0 x _ h0 h1 (by omega) (by omega) (by omega) (by omega)]; omega)
end Go.Proofs.YtmocppghmdeahaaGreat
