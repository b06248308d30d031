package programme_test

import (
	"math"
	"math/rand"
	"testing"

	"pinchcock/api"
	"pinchcock/dropset"
	"pinchcock/programme"
	"pinchcock/total"
)

// of is a programme.
func of(rate, vtbi, set int) api.Programme {
	return api.Programme{Rate: rate, Vtbi: vtbi, Set: set}
}

// sets are those that are known.
var sets = []int{10, 15, 20, 60}

// fastest is the greatest rate that may be, by the set.
var fastest = map[int]int{10: 1000, 15: 1000, 20: 1000, 60: 500}

// wrong is what Check is to tell.
func wrong(p api.Programme) api.Errno {
	high, known := fastest[p.Set]
	switch {
	case !known:
		return api.ErrSet
	case p.Rate < 5 || p.Rate > high:
		return api.ErrRate
	case p.Vtbi < 1 || p.Vtbi > 5000:
		return api.ErrVolume
	}
	return api.OK
}

// hold runs all calls, and holds them against what is wanted.
func hold(t *testing.T, p api.Programme, e api.Errno, need, time int) {
	t.Helper()
	if got := programme.Check(p); got != e {
		t.Fatalf("Check(%+v): %d, want %d", p, got, e)
	}
	if got, w := programme.Need(p); got != need || w != e {
		t.Fatalf("Need(%+v): %d, %d, want %d, %d", p, got, w, need, e)
	}
	if got, w := programme.Time(p); got != time || w != e {
		t.Fatalf("Time(%+v): %d, %d, want %d, %d", p, got, w, time, e)
	}
}

// wantedTime is the least count of ticks in which the rate comes to the volume.
func wantedTime(p api.Programme) int {
	ticks := p.Vtbi * 360000 / p.Rate
	if ticks*p.Rate < p.Vtbi*360000 {
		ticks++
	}
	return ticks
}

// P36.1: the set first, then the rate, then the volume.
func TestCheck(t *testing.T) {
	rows := []struct {
		p api.Programme
		e api.Errno
	}{
		{of(60, 100, 20), api.OK}, {of(5, 1, 10), api.OK}, {of(1000, 5000, 20), api.OK}, {of(1000, 5000, 15), api.OK}, {of(1000, 1, 10), api.OK}, {of(500, 1, 60), api.OK}, {of(5, 5000, 60), api.OK},
		{of(4, 100, 20), api.ErrRate}, {of(0, 100, 20), api.ErrRate}, {of(-5, 100, 20), api.ErrRate}, {of(1001, 100, 20), api.ErrRate}, {of(1001, 100, 10), api.ErrRate}, {of(501, 100, 60), api.ErrRate}, {of(1000, 100, 60), api.ErrRate}, {of(math.MinInt, 100, 20), api.ErrRate}, {of(math.MaxInt, 100, 20), api.ErrRate}, {of(1<<62, 100, 60), api.ErrRate}, {of(1<<61+60, 100, 60), api.ErrRate},
		{of(60, 0, 20), api.ErrVolume}, {of(60, -1, 20), api.ErrVolume}, {of(60, 5001, 20), api.ErrVolume}, {of(60, math.MinInt, 20), api.ErrVolume}, {of(60, math.MaxInt, 20), api.ErrVolume}, {of(500, 0, 60), api.ErrVolume}, {of(5, 0, 10), api.ErrVolume},
		{of(60, 100, 0), api.ErrSet}, {of(60, 100, 30), api.ErrSet}, {of(60, 100, -20), api.ErrSet}, {of(60, 100, 11), api.ErrSet}, {of(60, 100, math.MinInt), api.ErrSet}, {of(60, 100, math.MaxInt), api.ErrSet}, {of(60, 100, 1<<32+20), api.ErrSet},
		{api.Programme{}, api.ErrSet}, {of(0, 0, 7), api.ErrSet}, {of(60, 0, 7), api.ErrSet}, {of(0, 100, 7), api.ErrSet}, {of(0, 0, 20), api.ErrRate}, {of(501, 0, 60), api.ErrRate}, {of(math.MaxInt, math.MaxInt, math.MaxInt), api.ErrSet}, {of(math.MaxInt, math.MaxInt, 60), api.ErrRate},
	}
	for _, r := range rows {
		if got := programme.Check(r.p); got != r.e || got != wrong(r.p) {
			t.Errorf("Check(%+v): %d, want %d", r.p, got, r.e)
		}
	}
}

// P36.1: each rate with each set, and each volume; and some sets that are none.
func TestCheckOfEach(t *testing.T) {
	for set := -70; set <= 70; set++ {
		for rate := -2; rate <= 1010; rate++ {
			for _, vtbi := range []int{0, 1, 5000, 5001} {
				p := of(rate, vtbi, set)
				if got := programme.Check(p); got != wrong(p) {
					t.Fatalf("Check(%+v): %d, want %d", p, got, wrong(p))
				}
			}
		}
	}
	for vtbi := -10; vtbi <= 5010; vtbi++ {
		p := of(60, vtbi, 20)
		if got := programme.Check(p); got != wrong(p) {
			t.Fatalf("Check(%+v): %d, want %d", p, got, wrong(p))
		}
	}
}

// P36.2 and P36.3: the drops that it needs, and the ticks that it takes.
func TestNeedAndTime(t *testing.T) {
	rows := []struct {
		p          api.Programme
		need, time int
	}{
		{of(60, 100, 20), 2000, 600000}, {of(5, 1, 10), 10, 72000}, {of(1000, 5000, 20), 100000, 1800000}, {of(500, 5000, 60), 300000, 3600000}, {of(5, 5000, 10), 50000, 360000000}, {of(60, 1, 15), 15, 6000},
		{of(7, 1, 15), 15, 51429}, {of(11, 1, 15), 15, 32728}, {of(999, 1, 15), 15, 361}, {of(1000, 1, 15), 15, 360}, {of(900, 1, 15), 15, 400}, {of(899, 1, 15), 15, 401}, {of(901, 1, 15), 15, 400}, {of(7, 7, 60), 420, 360000}, {of(7, 8, 60), 480, 411429},
	}
	for _, r := range rows {
		hold(t, r.p, api.OK, r.need, r.time)
	}
}

// P36.2 and P36.3: of a programme that may not be nothing but what is wrong.
func TestNeedAndTimeOfNone(t *testing.T) {
	for _, set := range []int{math.MinInt, -20, 0, 7, 20, 60, math.MaxInt} {
		for _, rate := range []int{math.MinInt, -60, 0, 4, 5, 60, 501, 1001, math.MaxInt} {
			for _, vtbi := range []int{math.MinInt, -1, 0, 100, 5001, math.MaxInt} {
				if p := of(rate, vtbi, set); wrong(p) != api.OK {
					hold(t, p, wrong(p), 0, 0)
				}
			}
		}
	}
}

// P36.2 and P36.3: of each rate, and some volumes.
func TestNeedAndTimeOfEach(t *testing.T) {
	rnd := rand.New(rand.NewSource(362))
	for _, set := range sets {
		for rate := 5; rate <= fastest[set]; rate++ {
			for range 20 {
				p := of(rate, 1+rnd.Intn(5000), set)
				hold(t, p, api.OK, p.Vtbi*set, wantedTime(p))
			}
		}
	}
}

// P36.4: a limit that can be kept, a timeout of at most 28850 ticks, and 12 ticks
// from drop to drop at the least.
func TestWhatAProgrammeComesTo(t *testing.T) {
	longest, most, soonest := 0, 0, math.MaxInt
	for _, set := range sets {
		for rate := 0; rate <= 1001; rate++ {
			if programme.Check(of(rate, 100, set)) != api.OK {
				continue
			}
			limit, a := dropset.Limit(rate, set)
			timeout, b := dropset.Timeout(rate, set)
			every, c := dropset.Every(rate, set)
			if !a || !b || !c {
				t.Fatalf("%d of the set %d: %v, %v, %v", rate, set, a, b, c)
			}
			longest, most, soonest = max(longest, timeout), max(most, limit), min(soonest, every)
		}
	}
	if longest != 28850 || most != 508 || most > api.MaxRing-1 || soonest != 12 {
		t.Errorf("timeouts to %d, limits to %d, each %d ticks", longest, most, soonest)
	}
}

// P36.5: its volume is reached with just the drops that it needs.
func TestItsVolumeIsReached(t *testing.T) {
	for _, set := range sets {
		for vtbi := 1; vtbi <= 5000; vtbi++ {
			need, _ := programme.Need(of(5, vtbi, set))
			if !total.Reached(api.Total{Set: set, Drops: need}, vtbi) || total.Reached(api.Total{Set: set, Drops: need - 1}, vtbi) {
				t.Fatalf("%d of the set %d: %d drops", vtbi, set, need)
			}
		}
	}
}

// R4: nothing is kept from call to call.
func TestNothingIsKept(t *testing.T) {
	for range 3 {
		hold(t, of(60, 100, 20), api.OK, 2000, 600000)
		hold(t, of(60, 100, 21), api.ErrSet, 0, 0)
	}
}

// The chapter's example: 1000 an hour with the set 60.
func TestExample(t *testing.T) {
	hold(t, of(1000, 100, 60), api.ErrRate, 0, 0)
}
