package posture_test

import (
	"math"
	"math/rand"
	"testing"

	"pinchcock/api"
	"pinchcock/posture"
)

// long is the greatest count of ticks.
const long = 1 << 40

// of is a posture.
func of(tilt, battery int) api.Posture {
	return api.Posture{Tilt: tilt, Battery: battery}
}

// step runs Step, and holds it against what is wanted.
func step(t *testing.T, p api.Posture, tilt, battery int, want api.Posture) {
	t.Helper()
	if got := posture.Step(p, tilt, battery); got != want {
		t.Fatalf("Step(%+v, %d, %d): %+v, want %+v", p, tilt, battery, got, want)
	}
}

// more is one more than it was, where it is so.
func more(was int, so bool) int {
	if !so {
		return 0
	}
	return min(max(was, 0), long) + 1
}

// P33.1: above 30 degrees it is tilted, below 3300 millivolts the battery is
// empty, each by itself.
func TestStep(t *testing.T) {
	rows := []struct {
		p             api.Posture
		tilt, battery int
		want          api.Posture
	}{
		{of(0, 0), 0, 6000, of(0, 0)}, {of(0, 0), 31, 6000, of(1, 0)}, {of(0, 0), 0, 3299, of(0, 1)}, {of(0, 0), 180, 0, of(1, 1)},
		{of(7, 9), 30, 6000, of(0, 0)}, {of(7, 9), 31, 6000, of(8, 0)}, {of(7, 9), 29, 3300, of(0, 0)}, {of(7, 9), 29, 3299, of(0, 10)}, {of(7, 9), 32, 3298, of(8, 10)}, {of(7, 9), 31, 3300, of(8, 0)}, {of(7, 9), 30, 3299, of(0, 10)}, {of(7, 9), -31, 3301, of(0, 0)}, {of(7, 9), -31, -3301, of(0, 10)},
		{of(19, 20), 90, 1000, of(20, 21)}, {of(20, 19), 90, 1000, of(21, 20)},
	}
	for _, r := range rows {
		step(t, r.p, r.tilt, r.battery, r.want)
	}
}

// P33.1: each tilt, and each battery, and numbers beyond.
func TestStepOfEach(t *testing.T) {
	for tilt := -200; tilt <= 200; tilt++ {
		step(t, of(3, 4), tilt, 4000, of(more(3, tilt > 30), 0))
	}
	for battery := -10; battery <= 6010; battery++ {
		step(t, of(3, 4), 0, battery, of(0, more(4, battery < 3300)))
	}
	for _, n := range []int{math.MinInt, -api.Top, -1 << 32, 1 << 32, api.Top, math.MaxInt} {
		step(t, of(3, 4), n, 4000, of(more(3, n > 0), 0))
		step(t, of(3, 4), 0, n, of(0, more(4, n < 0)))
	}
}

// P33.1: what it was counts as from 0 to MaxTick.
func TestStepOfCountsBeyond(t *testing.T) {
	for _, low := range []int{math.MinInt, -api.Top, -2, -1, 0} {
		step(t, of(low, 5), 31, 3299, of(1, 6))
		step(t, of(5, low), 31, 3299, of(6, 1))
		step(t, of(low, low), 30, 3300, of(0, 0))
	}
	step(t, of(long-1, long-1), 31, 3299, of(long, long))
	for _, high := range []int{long, long + 1, api.Top, math.MaxInt - 1, math.MaxInt} {
		step(t, of(high, 5), 31, 3299, of(long+1, 6))
		step(t, of(5, high), 31, 3299, of(6, long+1))
		step(t, of(high, high), 30, 3300, of(0, 0))
	}
}

// P33.2: 20 at least.
func TestTiltedAndFlat(t *testing.T) {
	for _, n := range []int{math.MinInt, -20, -1, 0, 1, 18, 19, 20, 21, 1000, long, long + 1, math.MaxInt} {
		for _, other := range []int{math.MinInt, 0, 19, 20, math.MaxInt} {
			if got := posture.Tilted(of(n, other)); got != (n >= 20) {
				t.Errorf("Tilted(%+v): %v", of(n, other), got)
			}
			if got := posture.Flat(of(other, n)); got != (n >= 20) {
				t.Errorf("Flat(%+v): %v", of(other, n), got)
			}
		}
	}
}

// P33.3: fewer than 3500 millivolts.
func TestLow(t *testing.T) {
	for battery := -10; battery <= 6010; battery++ {
		if got := posture.Low(battery); got != (battery < 3500) {
			t.Errorf("Low(%d): %v", battery, got)
		}
	}
	for _, n := range []int{math.MinInt, -api.Top, 1 << 32, api.Top, math.MaxInt} {
		if got := posture.Low(n); got != (n < 0) {
			t.Errorf("Low(%d): %v", n, got)
		}
	}
}

// last is whether the last twenty of l are so.
func last(l []bool) bool {
	for k := 1; k <= 20; k++ {
		if len(l) < k || !l[len(l)-k] {
			return false
		}
	}
	return true
}

// P33.4: told just if it has lasted for twenty ticks up to this one; and a
// battery that is empty is low.
func TestWhatLasts(t *testing.T) {
	rnd := rand.New(rand.NewSource(334))
	for range 200 {
		p, tilted, empty := api.Posture{}, []bool{}, []bool{}
		for range 500 {
			tilt, battery := 31+rnd.Intn(150), rnd.Intn(3300)
			if rnd.Intn(30) == 0 {
				tilt = rnd.Intn(31)
			}
			if rnd.Intn(30) == 0 {
				battery = 3300 + rnd.Intn(2701)
			}
			p, tilted, empty = posture.Step(p, tilt, battery), append(tilted, tilt > 30), append(empty, battery < 3300)
			if posture.Tilted(p) != last(tilted) || posture.Flat(p) != last(empty) {
				t.Fatalf("behind %d ticks: %+v", len(tilted), p)
			}
			if posture.Flat(p) && !posture.Low(battery) {
				t.Fatalf("%d millivolts are empty, and not low", battery)
			}
		}
	}
}

// R4: nothing is kept from call to call.
func TestNothingIsKept(t *testing.T) {
	for range 3 {
		step(t, of(7, 9), 31, 3299, of(8, 10))
		step(t, of(7, 9), 30, 3300, of(0, 0))
	}
}

// The chapter's example: 31 degrees for 20 ticks.
func TestExample(t *testing.T) {
	p := api.Posture{}
	for k := 1; k <= 20; k++ {
		p = posture.Step(p, 31, 4000)
		if posture.Tilted(p) != (k == 20) {
			t.Errorf("tick %d: %+v", k, p)
		}
	}
}
