/- Contract of math/bits.Len64 as the program's own dump has it: a table's byte, and what was shifted away. -/
import Derived.Test.YthibaehiponfnaaRows
import Derived.Lib.Strings
import Derived.Lib.Slices
import Derived.Lib.Small
import Derived.Lib.Walk
import Derived.Lib.BitFns
namespace Go.Proofs.Ythibaehiponfnaa
set_option maxRecDepth 100000
set_option linter.unusedVariables false
set_option linter.unusedSimpArgs false

theorem bitLen64_le (x : Int) (h1 : x ≤ 18446744073709551615) : Lib.bitLen x.toNat ≤ 64 := Lib.bitLen_le x.toNat 64 (by omega) (by omega)

/-- The table's byte at what is left of x behind a shift by k. -/
theorem len_of (k : Nat) (x c : Int) (h0 : 0 ≤ x) (h1 : x ≤ 18446744073709551615) (hk : k = 0 ∨ 2 ^ k ≤ x.toNat) (hc : c.toNat = x.toNat / 2 ^ k) (c0 : 0 ≤ c) (c1 : c ≤ 255) :
    Lib.len8 c = (Lib.bitLen x.toNat : Int) - k := by
  rw [Lib.len8_of c c0 c1, hc]
  rcases hk with rfl | hk
  · simp
  · rw [Lib.bitLen_shift k x.toNat hk (by omega)]; omega

end Go.Proofs.Ythibaehiponfnaa
