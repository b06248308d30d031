package rate_test

import (
	"math"
	"math/big"
	"math/rand"
	"slices"
	"testing"

	"pinchcock/api"
	"pinchcock/rate"
)

// sets are those that are known.
var sets = []int{10, 15, 20, 60}

// strangers are no sets.
var strangers = []int{
	math.MinInt, -api.Top, -60, -20, -15, -10, -1, 0, 1, 9, 11, 14, 16, 19, 21, 30, 59, 61, 1000,
	1<<32 + 20, 256 + 10, 1<<62 + 60, api.Top, math.MaxInt,
}

// answer is what a call tells.
type answer struct {
	n  int
	ok bool
}

// none is what a call tells of nothing.
var none = answer{0, false}

// told is a number that is there.
func told(n int) answer {
	return answer{n, true}
}

// from is what a call told.
func from(n int, ok bool) answer {
	return answer{n, ok}
}

// row is what a call is given, and what is wanted.
type row struct {
	n, f int
	want answer
}

// runs runs the rows.
func runs(t *testing.T, name string, call func(int, int) (int, bool), rows []row) {
	t.Helper()
	for _, r := range rows {
		if got := from(call(r.n, r.f)); got != r.want {
			t.Errorf("%s(%d, %d): %v, want %v", name, r.n, r.f, got, r.want)
		}
	}
}

// counts is n as it counts.
func counts(n int) int {
	return min(max(n, -api.Top), api.Top)
}

// whole is how many microlitres an hour, times ticks, a drop of the set has, by
// numbers without an end, rounded down once it is divided by n.
func whole(n, f int) answer {
	if n < 1 {
		return none
	}
	hourly := big.NewRat(1000*360000, int64(f))
	hourly.Quo(hourly, big.NewRat(int64(counts(n)), 1))
	return told(int(new(big.Int).Div(hourly.Num(), hourly.Denom()).Int64()))
}

// amounts are ticks and rates: all small ones, those at each whole answer's
// edge, those at the limits, and such as are none.
func amounts() []int {
	rnd := rand.New(rand.NewSource(10))
	all := []int{math.MinInt, math.MinInt + 1, -api.Top - 1, -api.Top, -1000, -300, -1, api.Top - 1, api.Top, api.Top + 1,
		math.MaxInt - 1, math.MaxInt, math.MaxInt / 10, math.MaxInt / 15, math.MaxInt / 20, math.MaxInt / 60, math.MaxInt/60 + 1,
		api.MaxTick, 1 << 32, 1<<32 + 300, 1<<62 + 1}
	for n := range 3000 {
		all = append(all, n)
	}
	for _, f := range sets {
		for part := 1; part <= 300; part++ {
			edge := 360000000 / f / part
			all = append(all, edge-1, edge, edge+1)
		}
	}
	for range 3000 {
		all = append(all, int(rnd.Uint64()>>1)>>rnd.Intn(63))
	}
	return all
}

// P10.1: so many microlitres an hour, rounded down; none of no ticks.
func TestOf(t *testing.T) {
	runs(t, "Of", rate.Of, []row{
		{300, 20, told(60000)}, {301, 20, told(59800)}, {299, 20, told(60200)}, {1, 10, told(36000000)}, {1, 15, told(24000000)},
		{1, 20, told(18000000)}, {1, 60, told(6000000)}, {7, 15, told(3428571)}, {7, 60, told(857142)}, {36000, 10, told(1000)},
		{5142, 10, told(7001)}, {6000, 60, told(1000)}, {6000000, 60, told(1)}, {6000001, 60, told(0)}, {36000000, 10, told(1)}, {36000001, 10, told(0)},
		{api.MaxTick, 10, told(0)}, {api.Top, 60, told(0)}, {api.Top + 1, 10, told(0)}, {math.MaxInt, 15, told(0)}, {math.MaxInt / 60, 60, told(0)},
		{0, 10, none}, {0, 15, none}, {0, 20, none}, {0, 60, none}, {-1, 20, none}, {-300, 20, none}, {-api.Top, 60, none},
		{-api.Top - 1, 60, none}, {math.MinInt, 10, none}, {math.MinInt + 1, 60, none},
	})
}

// P10.2: so many ticks, rounded down; none of no rate.
func TestTicks(t *testing.T) {
	runs(t, "Ticks", rate.Ticks, []row{
		{60000, 20, told(300)}, {59999, 20, told(300)}, {60001, 20, told(299)}, {1, 10, told(36000000)}, {1, 15, told(24000000)},
		{1, 20, told(18000000)}, {1, 60, told(6000000)}, {7, 15, told(3428571)}, {1000, 10, told(36000)}, {1000000, 60, told(6)}, {1000000, 10, told(36)},
		{6000000, 60, told(1)}, {6000001, 60, told(0)}, {36000000, 10, told(1)}, {36000001, 10, told(0)},
		{api.Top, 60, told(0)}, {api.Top + 1, 10, told(0)}, {math.MaxInt, 15, told(0)}, {math.MaxInt / 60, 60, told(0)},
		{0, 10, none}, {0, 15, none}, {0, 20, none}, {0, 60, none}, {-1, 20, none}, {-60000, 20, none}, {-api.Top, 60, none},
		{-api.Top - 1, 60, none}, {math.MinInt, 10, none}, {math.MinInt + 1, 60, none},
	})
}

// P10.1 and P10.2: as numbers without an end are divided, and rounded but once.
func TestWholeIsRoundedOnce(t *testing.T) {
	for _, n := range amounts() {
		for _, f := range sets {
			want := whole(n, f)
			runs(t, "Of", rate.Of, []row{{n, f, want}})
			runs(t, "Ticks", rate.Ticks, []row{{n, f, want}})
		}
	}
}

// P10.1 and P10.2: there is nothing of a set that is not known.
func TestNothingOfStrangers(t *testing.T) {
	for _, f := range strangers {
		for _, n := range []int{math.MinInt, -1, 0, 1, 2, 300, 60000, api.Top, math.MaxInt} {
			runs(t, "Of", rate.Of, []row{{n, f, none}})
			runs(t, "Ticks", rate.Ticks, []row{{n, f, none}})
		}
	}
}

// P10.3: so many millilitres, from 0 to 1000, in microlitres.
func TestGoal(t *testing.T) {
	for n := range 1001 {
		if got := rate.Goal(n); got != 1000*n {
			t.Fatalf("Goal(%d): %d", n, got)
		}
	}
	for _, n := range []int{math.MinInt, -api.Top - 1, -api.Top, -1000, -2, -1} {
		if got := rate.Goal(n); got != 0 {
			t.Errorf("Goal(%d): %d", n, got)
		}
	}
	for _, n := range []int{1001, 1002, 60000, 1 << 32, api.Top, api.Top + 1, math.MaxInt/1000 + 1, math.MaxInt} {
		if got := rate.Goal(n); got != 1000000 {
			t.Errorf("Goal(%d): %d", n, got)
		}
	}
}

// P10.4: fewer ticks are no slower.
func TestFewerTicksAreNoSlower(t *testing.T) {
	ticks := slices.DeleteFunc(amounts(), func(n int) bool { return n < 1 })
	slices.Sort(ticks)
	for _, f := range sets {
		faster, _ := rate.Of(1, f)
		for _, n := range ticks {
			got, ok := rate.Of(n, f)
			if !ok || got > faster {
				t.Fatalf("Of(%d, %d): %d, %v, and with fewer ticks %d", n, f, got, ok, faster)
			}
			faster = got
		}
	}
}

// P10.5: at the ticks that a rate has it is not slower; with one more it is.
func TestTicksOfARate(t *testing.T) {
	for _, n := range amounts() {
		for _, f := range sets {
			ticks, ok := rate.Ticks(n, f)
			if !ok {
				continue
			}
			if at, there := rate.Of(ticks, f); there != (ticks > 0) || there && at < counts(n) {
				t.Fatalf("%d of %d has %d ticks, at which it is %d, %v", n, f, ticks, at, there)
			}
			if behind, there := rate.Of(ticks+1, f); !there || behind >= counts(n) {
				t.Fatalf("%d of %d has %d ticks, with one more it is %d, %v", n, f, ticks, behind, there)
			}
		}
	}
}

// R4: nothing is kept from call to call.
func TestNothingIsKept(t *testing.T) {
	once := from(rate.Of(300, 20))
	for _, f := range append(strangers, sets...) {
		rate.Of(7, f)
		rate.Ticks(7, f)
		rate.Goal(f)
	}
	if again := from(rate.Of(300, 20)); again != once {
		t.Errorf("asked again: %v, was %v", again, once)
	}
}

// The chapter's example.
func TestExample(t *testing.T) {
	runs(t, "Of", rate.Of, []row{{300, 20, told(60000)}})
}
