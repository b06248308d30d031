package slew_test

import (
	"math"
	"math/rand"
	"testing"

	"pinchcock/api"
	"pinchcock/slew"
)

// full is the greatest opening.
const full = 300

// wild are numbers at the limits and beyond.
var wild = []int{math.MinInt, math.MinInt + 1, -api.Top, -full - 1, -full, -8, -1, 0, 1, 8, 150, full - 8, full - 1, full, full + 1, 2 * full, 1 << 32, api.Top, math.MaxInt - 1, math.MaxInt}

// counted is n as it counts.
func counted(n int) int {
	return min(max(n, 0), full)
}

// wanted is what Step is to tell: it goes from was on by ones.
func wanted(was, want, up, down int) int {
	at, to := counted(was), counted(want)
	for k := 0; k < counted(up) && at < to; k++ {
		at++
	}
	if counted(was) <= to {
		return at
	}
	for k := 0; k < counted(down) && at > to; k++ {
		at--
	}
	return at
}

// step runs Step, and holds it against what is wanted.
func step(t *testing.T, was, want, up, down, next int) {
	t.Helper()
	if got := slew.Step(was, want, up, down); got != next {
		t.Fatalf("Step(%d, %d, %d, %d): %d, want %d", was, want, up, down, got, next)
	}
}

// P28.1: nearer to what is wanted, by up or down at the most.
func TestStep(t *testing.T) {
	rows := [][5]int{
		{10, 50, 8, 30, 18}, {50, 10, 8, 30, 20}, {10, 17, 8, 30, 17}, {10, 18, 8, 30, 18}, {10, 19, 8, 30, 18}, {10, 10, 8, 30, 10}, {10, 10, 0, 0, 10}, {50, 20, 8, 30, 20}, {50, 21, 8, 30, 21}, {50, 19, 8, 30, 20},
		{10, 50, 0, 30, 10}, {50, 10, 8, 0, 50}, {10, 50, 300, 0, 50}, {50, 10, 0, 300, 10}, {0, 300, 300, 0, 300}, {300, 0, 0, 300, 0}, {0, 300, 299, 0, 299}, {300, 0, 0, 299, 1}, {0, 0, 8, 30, 0}, {300, 300, 8, 30, 300}, {299, 300, 8, 30, 300}, {1, 0, 8, 30, 0}, {296, 300, 8, 30, 300},
	}
	for _, r := range rows {
		step(t, r[0], r[1], r[2], r[3], r[4])
	}
}

// P28.1: all four count as from 0 to 300.
func TestStepOfNumbersBeyond(t *testing.T) {
	rows := [][5]int{
		{-5, 50, 8, 30, 8}, {math.MinInt, 50, 8, 30, 8}, {305, 0, 8, 30, 270}, {math.MaxInt, 0, 8, 30, 270}, {10, -5, 8, 30, 0}, {10, math.MinInt, 8, 3, 7}, {290, 305, 8, 30, 298}, {295, math.MaxInt, 8, 30, 300}, {305, 306, 8, 30, 300}, {-5, -6, 8, 30, 0},
		{10, 50, -8, 30, 10}, {10, 50, math.MinInt, 30, 10}, {50, 10, 8, -30, 50}, {50, 10, 8, math.MinInt, 50}, {0, 300, 301, 0, 300}, {10, 300, math.MaxInt, 0, 300}, {300, 0, 0, math.MaxInt, 0}, {300, 10, 0, 301, 10},
	}
	for _, r := range rows {
		step(t, r[0], r[1], r[2], r[3], r[4])
	}
	for _, was := range wild {
		for _, want := range wild {
			for _, up := range wild {
				for _, down := range wild {
					step(t, was, want, up, down, wanted(was, want, up, down))
				}
			}
		}
	}
}

// P28.1: from each opening to each one.
func TestStepOfEachOpening(t *testing.T) {
	for was := -2; was <= full+2; was++ {
		for want := -2; want <= full+2; want++ {
			step(t, was, want, 8, 30, wanted(was, want, 8, 30))
			step(t, was, want, 30, 8, wanted(was, want, 30, 8))
			step(t, was, want, 1, 0, wanted(was, want, 1, 0))
		}
	}
}

// steps is how many steps of a size a way needs.
func steps(way, size int) int {
	return (way + size - 1) / size
}

// P28.2: it never goes beyond what is wanted, and is there in as many steps as
// are needed, and stays.
func TestItGetsThere(t *testing.T) {
	rnd := rand.New(rand.NewSource(282))
	for range 5000 {
		at, want, up, down := rnd.Intn(full+1), rnd.Intn(full+1), 1+rnd.Intn(40), 1+rnd.Intn(40)
		need := max(steps(want-at, up), steps(at-want, down), 0)
		above := at > want
		for k := 1; k <= need+3; k++ {
			at = slew.Step(at, want, up, down)
			if at < 0 || at > full || above && at < want || !above && at > want || (at == want) != (k >= need) {
				t.Fatalf("to %d by %d and %d: at %d in step %d of %d", want, up, down, at, k, need)
			}
		}
	}
}

// R4: nothing is kept from call to call.
func TestNothingIsKept(t *testing.T) {
	for range 3 {
		step(t, 10, 50, 8, 30, 18)
		step(t, 50, 10, 8, 30, 20)
	}
}

// The chapter's example: from 10 to 50 by 8.
func TestExample(t *testing.T) {
	step(t, 10, 50, 8, 0, 18)
}
