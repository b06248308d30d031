package control_test

import (
	"math"
	"math/rand"
	"testing"

	"pinchcock/api"
	"pinchcock/control"
)

// part is how many parts of a sum are a step, and all the greatest sum.
const (
	part = 65536
	all  = 300 * part
)

// of is a control.
func of(sum, gain, out int) api.Control {
	return api.Control{Pi: api.Pi{Sum: sum}, Gain: gain, Out: out}
}

// within is n from low to high.
func within(n, low, high int) int {
	return min(max(n, low), high)
}

// down is n by d, rounded down.
func down(n, d int) int {
	q := n / d
	if n%d < 0 {
		q--
	}
	return q
}

// product is the product of a rate and a small number, no further than Top.
func product(rate, n int) int {
	rate = within(rate, -api.Top, api.Top)
	if max(rate, -rate) > api.Top/n {
		return within(rate, -1, 1) * api.Top
	}
	return rate * n
}

// gained is the gain that a control is to have.
func gained(gain, goal, seen int) int {
	g := within(gain, 64, 1024)
	switch {
	case product(seen, 8) > product(goal, 9):
		return within(g-g/16-1, 64, 1024)
	case product(seen, 8) < product(goal, 7):
		return within(g+g/16+1, 64, 1024)
	}
	return g
}

// nearer is what Step is to tell of what is due, and open.
func nearer(c api.Control, goal, seen int) api.Control {
	gain := gained(c.Gain, goal, seen)
	fault := within(within(goal, -api.Top, api.Top)-within(seen, -api.Top, api.Top), -api.Top, api.Top)
	kp, ki := 16*gain/256, 4*gain/256
	sum := within(c.Pi.Sum, 0, all)
	opening := func() int {
		return down(within(product(fault, kp)+sum, -api.Top, api.Top), part)
	}
	if asked := opening(); !(asked > 300 && fault > 0 || asked < 0 && fault < 0) {
		sum = within(sum+product(fault, ki), 0, all)
	}
	out, want := within(c.Out, 0, 300), within(opening(), 0, 300)
	if want > out {
		return of(sum, gain, min(want, out+8))
	}
	return of(sum, gain, max(want, out-30))
}

// step runs Step, and holds it against what is wanted.
func step(t *testing.T, c api.Control, goal, seen int, due, shut bool, want api.Control) api.Control {
	t.Helper()
	got := control.Step(c, goal, seen, due, shut)
	if got != want {
		t.Fatalf("Step(%+v, %d, %d, %v, %v): %+v, want %+v", c, goal, seen, due, shut, got, want)
	}
	return got
}

// P30.1: ten, and one more for each 4000 of the goal.
func TestBegin(t *testing.T) {
	rows := []struct{ goal, out int }{
		{0, 10}, {1, 10}, {3999, 10}, {4000, 11}, {4001, 11}, {5000, 11}, {7999, 11}, {8000, 12}, {60000, 25}, {63999, 25}, {64000, 26}, {100000, 35}, {999999, 259}, {1000000, 260}, {1000001, 260}, {1004000, 260}, {1 << 32, 260}, {api.Top, 260}, {math.MaxInt, 260},
		{-1, 10}, {-4000, 10}, {-8000, 10}, {-api.Top, 10}, {math.MinInt, 10},
	}
	for _, r := range rows {
		if got := control.Begin(r.goal); got != of(part*r.out, 256, r.out) {
			t.Errorf("Begin(%d): %+v", r.goal, got)
		}
	}
}

// controls are some, also such as may not be.
var controls = []api.Control{
	{}, of(0, 256, 0), of(0, 64, 0), of(1, 256, 0), of(0, 256, 1), of(part*25, 256, 25), of(part*300, 1024, 300), of(all+1, 1025, 301), of(-1, -1, -1), of(0, math.MinInt, 0), of(0, math.MaxInt, 0), of(math.MaxInt, math.MaxInt, math.MaxInt), of(math.MinInt, math.MinInt, math.MinInt),
}

// rates are some, also such as may not be.
var rates = []int{math.MinInt, -api.Top, -60000, -1, 0, 1, 5000, 60000, 1000000, api.Top, math.MaxInt}

// P30.2: what is shut has no sum and no opening, and the gain that it had,
// whether it is due or not.
func TestStepShut(t *testing.T) {
	for _, c := range controls {
		for _, goal := range rates {
			for _, seen := range rates {
				for _, due := range []bool{false, true} {
					step(t, c, goal, seen, due, true, of(0, c.Gain, 0))
				}
			}
		}
	}
}

// P30.2: what is not due is as it is.
func TestStepNotDue(t *testing.T) {
	for _, c := range controls {
		for _, goal := range rates {
			for _, seen := range rates {
				step(t, c, goal, seen, false, false, c)
			}
		}
	}
}

// P30.2: the gain first, then the loop by that gain, then the opening.
func TestStepDue(t *testing.T) {
	rows := []struct {
		c          api.Control
		goal, seen int
		want       api.Control
	}{
		// Nothing is wrong.
		{of(part*25, 256, 25), 60000, 60000, of(part*25, 256, 25)},
		// A little too slow: kp is 16, ki 4.
		{of(part*25, 256, 25), 60000, 59000, of(part*25+4000, 256, 25)},
		{of(part*25, 256, 25), 64000, 59904, of(part*25+16384, 256, 26)},
		// A little too fast.
		{of(part*25, 256, 25), 60000, 61000, of(part*25-4000, 256, 24)},
		// Far too slow: the gain goes up to 273, kp to 17, ki stays 4.
		{of(part*25, 256, 25), 60000, 0, of(part*25+240000, 273, 33)},
		// Far too fast: the gain goes down to 239, kp to 14, ki to 3.
		{of(part*100, 256, 100), 60000, 120000, of(part*100-180000, 239, 84)},
		// It closes by 30 at the most, and opens by 8.
		{of(part*5, 256, 100), 60000, 60000, of(part*5, 256, 70)},
		{of(part*100, 256, 5), 60000, 60000, of(part*100, 256, 13)},
		{of(part*70, 256, 100), 60000, 60000, of(part*70, 256, 70)},
		{of(part*108, 256, 100), 60000, 60000, of(part*108, 256, 108)},
		// At the gain 64 kp is 4, and ki 1; at 1024 they are 64 and 16.
		{of(part*25, 64, 25), 60000, 59000, of(part*25+1000, 64, 25)},
		{of(part*25, 1024, 25), 60000, 59000, of(part*25+16000, 1024, 26)},
		{of(part*25, 0, 25), 60000, 59000, of(part*25+1000, 64, 25)},
		{of(part*25, 319, 25), 60000, 59000, of(part*25+4000, 319, 25)},
		{of(part*25, 320, 25), 60000, 59000, of(part*25+5000, 320, 25)},
		// Far beyond the ends nothing is summed up.
		{of(part*290, 256, 290), 1000000, 0, of(part*290, 273, 298)},
		{of(part*10, 256, 10), 5000, 1000000, of(part*10, 239, 0)},
		{of(-5, 256, -5), 60000, 60000, of(0, 256, 0)},
		{of(all+5, 256, 400), 60000, 60000, of(all, 256, 300)},
	}
	for _, r := range rows {
		step(t, r.c, r.goal, r.seen, true, false, r.want)
	}
}

// P30.2: of controls and rates at the limits and beyond, each with each.
func TestStepOfNumbersBeyond(t *testing.T) {
	for _, c := range controls {
		for _, goal := range rates {
			for _, seen := range rates {
				step(t, c, goal, seen, true, false, nearer(c, goal, seen))
			}
		}
	}
}

// P30.2: of any control.
func TestAnyControl(t *testing.T) {
	rnd := rand.New(rand.NewSource(302))
	for range 100000 {
		c := of(rnd.Intn(all+part)-part/2, 50+rnd.Intn(1000), rnd.Intn(310)-5)
		goal, seen := rnd.Intn(1000001), rnd.Intn(1000001)
		if rnd.Intn(2) == 0 {
			seen = goal + rnd.Intn(20001) - 10000
		}
		step(t, c, goal, seen, true, false, nearer(c, goal, seen))
	}
}

// P30.3: shut at once, and as long as it is; opened again it knows the gain.
func TestWhatIsShutIsNotOpen(t *testing.T) {
	rnd := rand.New(rand.NewSource(303))
	c := control.Begin(60000)
	for tick := range 50000 {
		was, shut := c, rnd.Intn(3) == 0
		c = control.Step(c, rnd.Intn(100000), rnd.Intn(100000), tick%3 == 0, shut)
		if shut && (c.Out != 0 || c.Pi.Sum != 0 || c.Gain != was.Gain) {
			t.Fatalf("tick %d: %+v behind %+v", tick, c, was)
		}
	}
}

// P30.4: it opens by 8 at the most, closes by 30 at the most, but to be shut, and
// never leaves its limits.
func TestHowFastItOpens(t *testing.T) {
	rnd := rand.New(rand.NewSource(304))
	c := control.Begin(1000000)
	for tick := range 50000 {
		was, shut := c, rnd.Intn(200) == 0
		c = control.Step(c, int(rnd.Uint64())>>rnd.Intn(64), int(rnd.Uint64())>>rnd.Intn(64), rnd.Intn(3) > 0, shut)
		if c.Out < 0 || c.Out > 300 || c.Pi.Sum < 0 || c.Pi.Sum > all || c.Gain < 64 || c.Gain > 1024 {
			t.Fatalf("tick %d: %+v", tick, c)
		}
		if c.Out > was.Out+8 || c.Out < was.Out-30 && !shut {
			t.Fatalf("tick %d: %+v behind %+v", tick, c, was)
		}
	}
}

// R4: nothing is kept from call to call.
func TestNothingIsKept(t *testing.T) {
	c := of(part*25, 256, 25)
	for range 3 {
		step(t, c, 60000, 59000, true, false, of(part*25+4000, 256, 25))
		step(t, c, 60000, 59000, true, true, of(0, 256, 0))
		step(t, c, 60000, 59000, false, false, c)
	}
}

// The chapter's example: a goal of 60000.
func TestExample(t *testing.T) {
	if got := control.Begin(60000); got.Out != 25 {
		t.Errorf("it begins with %d", got.Out)
	}
}
