/- The keypad as plain functions. -/
import Derived.Test.YthghangoagponaaDoorProgm
import Derived.Test.YthghangoagponaaDoorLaid
import Derived.Test.YthghangoagponaaDoorBx
namespace Go.Proofs.YthghangoagponaaDoor
set_option linter.unusedVariables false
set_option linter.unusedSimpArgs false

def kySets : List Int := [10, 15, 20, 60]
def mvV (n b lo hi : Int) : Int := min (max (min (max n 0) hi + b) lo) hi
def beV (s b : Int) : Int := if s = 10 then (if b = 1 then 15 else 10) else if s = 15 then (if b = 1 then 20 else 10) else if s = 20 then (if b = 1 then 60 else 15) else if s = 60 then (if b = 1 then 60 else 20) else 10
def foV (f : Int) : Int := if 2 ≤ f then 0 else max f 0 + 1
def edR (f r b : Int) : Int := if f = 0 then mvV r (b * 5) 5 1000 else r
def edV (f v b : Int) : Int := if f = 1 then mvV v (b * 10) 1 5000 else v
def edS (f s b : Int) : Int := if f = 2 then beV s b else s
def tnF (k f : Int) : Int := if k = 3 then foV f else f
def tnR (k f r : Int) : Int := if k = 1 then edR f r 1 else if k = 2 then edR f r (-1) else r
def tnV (k f v : Int) : Int := if k = 1 then edV f v 1 else if k = 2 then edV f v (-1) else v
def tnS (k f s : Int) : Int := if k = 1 then edS f s 1 else if k = 2 then edS f s (-1) else s
def cfB (m l r v s : Int) : Bool := decide ((m = 1 ∨ m = 4 ∨ m = 3) ∧ l = 0 ∧ ckV r v s = 0)
def wiK (k : Int) (c : Bool) : Int := if k = 5 then (if c = true then 1 else 0) else if 6 ≤ k ∧ k ≤ 10 then k - 4 else 0
def wiP (k : Int) (c : Bool) (x : Int) : Int := if k = 5 ∧ c = true then x else 0
def stA (k : Int) (a c : Bool) : Bool := if k = 0 then a else decide (k = 4) && c
end Go.Proofs.YthghangoagponaaDoor
