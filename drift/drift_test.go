package drift_test

import (
	"math"
	"math/big"
	"math/rand"
	"testing"

	"pinchcock/api"
	"pinchcock/drift"
)

// long is the greatest count.
const long = 1 << 40

// of is a drift.
func of(over, under int) api.Drift {
	return api.Drift{Over: over, Under: under}
}

// times is what sat.Mul is to tell, by numbers without an end.
func times(rate, n int) int {
	x := big.NewInt(int64(min(max(rate, -api.Top), api.Top)))
	x.Mul(x, big.NewInt(int64(n)))
	if x.CmpAbs(big.NewInt(api.Top)) > 0 {
		return x.Sign() * api.Top
	}
	return int(x.Int64())
}

// more is one more than it was, where it is so.
func more(was int, so bool) int {
	if !so {
		return 0
	}
	return min(max(was, 0), long) + 1
}

// wanted is what Step is to tell.
func wanted(d api.Drift, goal, seen int, known bool) api.Drift {
	if !known {
		return api.Drift{}
	}
	return of(more(d.Over, times(seen, 2) > times(goal, 3)), more(d.Under, times(seen, 2) < times(goal, 1)))
}

// step runs Step, and holds it against what is wanted.
func step(t *testing.T, d api.Drift, goal, seen int, known bool, want api.Drift) api.Drift {
	t.Helper()
	got := drift.Step(d, goal, seen, known)
	if got != want {
		t.Fatalf("Step(%+v, %d, %d, %v): %+v, want %+v", d, goal, seen, known, got, want)
	}
	return got
}

// P31.1: above one and a half of the goal it is too fast, below a half too slow.
func TestStep(t *testing.T) {
	rows := []struct {
		d          api.Drift
		goal, seen int
		want       api.Drift
	}{
		{of(2, 3), 1000, 1000, of(0, 0)}, {of(2, 3), 1000, 1500, of(0, 0)}, {of(2, 3), 1000, 1501, of(3, 0)}, {of(2, 3), 1000, 500, of(0, 0)}, {of(2, 3), 1000, 499, of(0, 4)}, {of(2, 3), 1000, 0, of(0, 4)}, {of(2, 3), 1000, -7, of(0, 4)}, {of(2, 3), 1000, 9000000, of(3, 0)},
		{of(2, 3), 1001, 1501, of(0, 0)}, {of(2, 3), 1001, 1502, of(3, 0)}, {of(2, 3), 1001, 501, of(0, 0)}, {of(2, 3), 1001, 500, of(0, 4)}, {of(2, 3), 999, 1498, of(0, 0)}, {of(2, 3), 999, 1499, of(3, 0)}, {of(2, 3), 999, 500, of(0, 0)}, {of(2, 3), 999, 499, of(0, 4)},
		{of(2, 3), 0, 0, of(0, 0)}, {of(2, 3), 0, 1, of(3, 0)}, {of(2, 3), 0, -1, of(0, 4)}, {of(2, 3), 1, 1, of(0, 0)}, {of(2, 3), 1, 2, of(3, 0)}, {of(2, 3), 1, 0, of(0, 4)},
		{of(0, 0), 1000, 1501, of(1, 0)}, {of(0, 0), 1000, 499, of(0, 1)}, {of(4, 4), 1000, 1501, of(5, 0)}, {of(99, 4), 1000, 1501, of(100, 0)}, {of(4, 99), 1000, 499, of(0, 100)},
		{of(2, 3), -10, -10, of(3, 4)}, {of(2, 3), -10, -15, of(0, 4)}, {of(2, 3), -10, -14, of(3, 4)}, {of(2, 3), -10, -5, of(3, 0)}, {of(2, 3), -10, -6, of(3, 4)},
	}
	for _, r := range rows {
		step(t, r.d, r.goal, r.seen, true, r.want)
	}
}

// P31.1: of what is not known nothing is left.
func TestStepOfWhatIsNotKnown(t *testing.T) {
	for _, d := range []api.Drift{{}, of(1, 0), of(0, 4), of(5, 5), of(-1, -1), of(math.MaxInt, math.MinInt)} {
		for _, rate := range []int{math.MinInt, -1, 0, 1, 499, 1501, math.MaxInt} {
			step(t, d, 1000, rate, false, api.Drift{})
			step(t, d, rate, 1000, false, api.Drift{})
		}
	}
}

// P31.1: what it was counts as from 0 to MaxTick.
func TestStepOfCountsBeyond(t *testing.T) {
	for _, low := range []int{math.MinInt, -api.Top, -5, -1, 0} {
		step(t, of(low, low), 1000, 1501, true, of(1, 0))
		step(t, of(low, low), 1000, 499, true, of(0, 1))
	}
	step(t, of(long-1, 0), 1000, 1501, true, of(long, 0))
	step(t, of(0, long-1), 1000, 499, true, of(0, long))
	for _, high := range []int{long, long + 1, api.Top, math.MaxInt - 1, math.MaxInt} {
		step(t, of(high, high), 1000, 1501, true, of(long+1, 0))
		step(t, of(high, high), 1000, 499, true, of(0, long+1))
		step(t, of(high, high), 1000, 1000, true, api.Drift{})
	}
}

// P31.1: rates at the limits and beyond, each with each.
func TestStepOfRatesBeyond(t *testing.T) {
	wild := []int{math.MinInt, math.MinInt + 1, -api.Top - 1, -api.Top, -api.Top/2 - 1, -api.Top / 2, -api.Top / 3, -1 << 32, -1, 0, 1, 1 << 32, api.Top/3 - 1, api.Top / 3, api.Top/3 + 1, api.Top/2 - 1, api.Top / 2, api.Top/2 + 1, api.Top - 1, api.Top, api.Top + 1, math.MaxInt - 1, math.MaxInt}
	for _, goal := range wild {
		for _, seen := range wild {
			step(t, of(2, 3), goal, seen, true, wanted(of(2, 3), goal, seen, true))
		}
	}
	step(t, of(2, 3), api.Top, api.Top, true, of(0, 0))
	step(t, of(2, 3), math.MaxInt, api.Top/2, true, of(0, 0))
	step(t, of(2, 3), math.MaxInt, api.Top/2-1, true, of(0, 4))
	step(t, of(2, 3), math.MinInt, math.MinInt, true, of(0, 0))
}

// P31.2: five at least.
func TestFastAndSlow(t *testing.T) {
	for _, n := range []int{math.MinInt, -api.Top, -5, -1, 0, 1, 4, 5, 6, 100, long, long + 1, api.Top, math.MaxInt} {
		for _, other := range []int{math.MinInt, 0, 4, 5, math.MaxInt} {
			if got := drift.Fast(of(n, other)); got != (n >= 5) {
				t.Errorf("Fast(%+v): %v", of(n, other), got)
			}
			if got := drift.Slow(of(other, n)); got != (n >= 5) {
				t.Errorf("Slow(%+v): %v", of(other, n), got)
			}
		}
	}
}

// last is whether the last five of l are so.
func last(l []bool) bool {
	for k := 1; k <= 5; k++ {
		if len(l) < k || !l[len(l)-k] {
			return false
		}
	}
	return true
}

// P31.3: too fast just if the last five drops were; likewise too slow; and never
// both.
func TestFiveInARow(t *testing.T) {
	rnd := rand.New(rand.NewSource(313))
	for range 200 {
		d, fast, slow := api.Drift{}, []bool{}, []bool{}
		high := 2 + rnd.Intn(3)
		for range 300 {
			goal, known := rnd.Intn(1000), rnd.Intn(30) > 0
			seen := rnd.Intn(1 + high*goal/2)
			d = drift.Step(d, goal, seen, known)
			fast, slow = append(fast, known && 2*seen > 3*goal), append(slow, known && 2*seen < goal)
			if drift.Fast(d) != last(fast) || drift.Slow(d) != last(slow) || d.Over > 0 && d.Under > 0 {
				t.Fatalf("behind %d drops: %+v", len(fast), d)
			}
		}
	}
}

// R4: nothing is kept from call to call.
func TestNothingIsKept(t *testing.T) {
	for range 3 {
		step(t, of(4, 0), 1000, 2000, true, of(5, 0))
		step(t, of(0, 4), 1000, 100, true, of(0, 5))
	}
}

// The chapter's example: a goal of 1000.
func TestExample(t *testing.T) {
	for _, r := range []struct{ seen, over, under int }{{1501, 1, 0}, {1500, 0, 0}, {500, 0, 0}, {499, 0, 1}} {
		step(t, api.Drift{}, 1000, r.seen, true, of(r.over, r.under))
	}
}
