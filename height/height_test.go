package height_test

import (
	"math"
	"math/big"
	"math/rand"
	"testing"

	"pinchcock/api"
	"pinchcock/height"
)

// least and most are the ends of a gain.
const (
	least = 64
	most  = 1024
)

// wild are numbers at the limits and beyond.
var wild = []int{math.MinInt, math.MinInt + 1, -api.Top - 1, -api.Top, -api.Top / 8, -1 << 32, -60000, -9, -8, -7, -1, 0, 1, 7, 8, 9, 60000, 1 << 32, api.Top/9 - 1, api.Top / 9, api.Top/9 + 1, api.Top/8 - 1, api.Top / 8, api.Top/8 + 1, api.Top / 7, api.Top/7 + 1, api.Top - 1, api.Top, api.Top + 1, math.MaxInt - 1, math.MaxInt}

// counted is a gain as it counts.
func counted(gain int) int {
	return min(max(gain, least), most)
}

// times is what sat.Mul is to tell, by numbers without an end.
func times(rate, n int) int {
	x := big.NewInt(int64(min(max(rate, -api.Top), api.Top)))
	x.Mul(x, big.NewInt(int64(n)))
	if x.CmpAbs(big.NewInt(api.Top)) > 0 {
		return x.Sign() * api.Top
	}
	return int(x.Int64())
}

// wanted is what Adapt is to tell.
func wanted(gain, goal, seen int) int {
	g := counted(gain)
	eight := times(seen, 8)
	switch {
	case eight > times(goal, 9):
		return counted(g - (g/16 + 1))
	case eight < times(goal, 7):
		return counted(g + (g/16 + 1))
	}
	return g
}

// adapt runs Adapt, and holds it against what is wanted.
func adapt(t *testing.T, gain, goal, seen, want int) int {
	t.Helper()
	got := height.Adapt(gain, goal, seen)
	if got != want {
		t.Fatalf("Adapt(%d, %d, %d): %d, want %d", gain, goal, seen, got, want)
	}
	return got
}

// P29.1: a sixteenth, and 1, less above nine eighths of the goal, more below
// seven.
func TestAdapt(t *testing.T) {
	rows := [][4]int{
		{256, 1000, 1000, 256}, {256, 1000, 1125, 256}, {256, 1000, 1126, 239}, {256, 1000, 875, 256}, {256, 1000, 874, 273}, {256, 1000, 2000, 239}, {256, 1000, 0, 273}, {256, 8, 9, 256}, {256, 8, 10, 239}, {256, 8, 7, 256}, {256, 8, 6, 273}, {256, 1, 1, 256}, {256, 1, 2, 239}, {256, 1, 0, 273}, {256, 0, 0, 256}, {256, 0, 1, 239}, {256, 0, -1, 273},
		{255, 8, 10, 239}, {255, 8, 6, 271}, {257, 8, 10, 240}, {257, 8, 6, 274}, {271, 8, 10, 254}, {272, 8, 10, 254}, {100, 8, 10, 93}, {100, 8, 6, 107}, {600, 8, 10, 562}, {600, 8, 6, 638},
		{64, 8, 10, 64}, {65, 8, 10, 64}, {68, 8, 10, 64}, {69, 8, 10, 64}, {70, 8, 10, 65}, {64, 8, 6, 69}, {1024, 8, 10, 959}, {1024, 8, 6, 1024}, {1023, 8, 6, 1024}, {963, 8, 6, 1024}, {962, 8, 6, 1023}, {960, 8, 6, 1021}, {959, 8, 6, 1019},
	}
	for _, r := range rows {
		adapt(t, r[0], r[1], r[2], r[3])
	}
}

// P29.1: below 0 nine times a goal are less than seven times it: what is between
// counts as above.
func TestAdaptOfGoalsBelowNothing(t *testing.T) {
	for _, r := range [][4]int{{256, -8, -10, 273}, {256, -8, -9, 273}, {256, -8, -8, 239}, {256, -8, -7, 239}, {256, -8, -6, 239}, {256, -8, 0, 239}, {256, -8, 8, 239}} {
		adapt(t, r[0], r[1], r[2], r[3])
	}
}

// P29.1: a gain counts as from 64 to 1024, also where it stays.
func TestAdaptOfGainsBeyond(t *testing.T) {
	for _, low := range []int{math.MinInt, -api.Top, -1, 0, 1, 63, 64} {
		adapt(t, low, 1000, 1000, 64)
		adapt(t, low, 1000, 2000, 64)
		adapt(t, low, 1000, 100, 69)
	}
	for _, high := range []int{1024, 1025, 1 << 32, api.Top, math.MaxInt} {
		adapt(t, high, 1000, 1000, 1024)
		adapt(t, high, 1000, 2000, 959)
		adapt(t, high, 1000, 100, 1024)
	}
}

// P29.1: rates at the limits and beyond, each with each: products stop there.
func TestAdaptOfRatesBeyond(t *testing.T) {
	for _, goal := range wild {
		for _, seen := range wild {
			for _, gain := range []int{math.MinInt, 63, 64, 65, 256, 1000, 1024, 1025, math.MaxInt} {
				adapt(t, gain, goal, seen, wanted(gain, goal, seen))
			}
		}
	}
	adapt(t, 256, api.Top, 1, 273)
	adapt(t, 256, math.MaxInt, math.MaxInt, 256)
	adapt(t, 256, api.Top/4, api.Top, 256)
	adapt(t, 256, api.Top/9, api.Top, 239)
	adapt(t, 256, math.MinInt, -api.Top/8, 256)
}

// P29.1: of each gain, and any rates.
func TestAdaptOfEachGain(t *testing.T) {
	rnd := rand.New(rand.NewSource(291))
	for gain := least - 3; gain <= most+3; gain++ {
		for range 100 {
			goal := rnd.Intn(1000001)
			seen := rnd.Intn(1000001)
			if rnd.Intn(2) == 0 {
				seen = goal*(7+2*rnd.Intn(2))/8 + rnd.Intn(5) - 2
			}
			adapt(t, gain, goal, seen, wanted(gain, goal, seen))
		}
	}
}

// P29.2: it never leaves its limits, goes down where too much flows, up where too
// little does, by something, but at the ends.
func TestItGoesTheRightWay(t *testing.T) {
	rnd := rand.New(rand.NewSource(292))
	for gain := least; gain <= most; gain++ {
		for range 20 {
			goal := 1 + rnd.Intn(1000000)
			less := height.Adapt(gain, goal, goal+goal/8+1+rnd.Intn(goal))
			more := height.Adapt(gain, goal, (7*goal-1)/8-rnd.Intn(goal))
			if less < least || more > most || less >= gain && gain > least || more <= gain && gain < most || less > gain || more < gain {
				t.Fatalf("of %d: %d, %d", gain, less, more)
			}
		}
	}
}

// near is whether what is seen is within an eighth of the goal.
func near(goal, seen int) bool {
	return 7*goal <= 8*seen && 8*seen <= 9*goal
}

// reachable is whether there is a gain at which what flows is near the goal.
func reachable(goal, flow int) bool {
	for gain := least; gain <= most; gain++ {
		if near(goal, flow*gain) {
			return true
		}
	}
	return false
}

// P29.3: where what flows is so many times the gain, it is near the goal in a
// hundred steps, if it can be, and stays.
func TestItFindsTheHeight(t *testing.T) {
	rnd := rand.New(rand.NewSource(293))
	found := 0
	for range 3000 {
		flow := 1 + rnd.Intn(1000)
		goal := flow * (50 + rnd.Intn(1200))
		if !reachable(goal, flow) {
			continue
		}
		found++
		gain := least + rnd.Intn(most-least+1)
		for range 100 {
			gain = height.Adapt(gain, goal, flow*gain)
		}
		if !near(goal, flow*gain) {
			t.Fatalf("flow %d, goal %d: at the gain %d", flow, goal, gain)
		}
		adapt(t, gain, goal, flow*gain, gain)
	}
	if found < 1000 {
		t.Fatalf("only %d heights", found)
	}
}

// R4: nothing is kept from call to call.
func TestNothingIsKept(t *testing.T) {
	for range 3 {
		adapt(t, 256, 1000, 2000, 239)
		adapt(t, 256, 1000, 500, 273)
		adapt(t, 256, 1000, 1000, 256)
	}
}

// The chapter's example: from 256, with twice as much as wanted.
func TestExample(t *testing.T) {
	adapt(t, 256, 60000, 120000, 239)
}
