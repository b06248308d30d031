package pane_test

import (
	"math"
	"math/rand"
	"slices"
	"testing"

	"pinchcock/api"
	"pinchcock/pane"
)

// minute is how many ticks a minute has, and most how many times are kept.
const (
	minute = 6000
	most   = 512
)

// upTo are the numbers from low to high.
func upTo(low, high int) []int {
	l := []int{}
	for n := low; n <= high; n++ {
		l = append(l, n)
	}
	return l
}

// limited is a limit as it counts.
func limited(limit int) int {
	return min(max(limit, 0), most-1)
}

// clamped is a time as it counts.
func clamped(t int) int {
	return min(max(t, -api.Top), api.Top)
}

// within is whether x is within the minute up to now.
func within(x, now int) bool {
	begin := clamped(clamped(now) - minute)
	return clamped(x) > begin && clamped(x) <= clamped(now)
}

// many is how many of l are within the minute up to now.
func many(l []int, now int) int {
	n := 0
	for _, x := range l {
		if within(x, now) {
			n++
		}
	}
	return n
}

// wantedStep is what Step is to tell.
func wantedStep(l []int, t int, drop bool, limit int) []int {
	if !drop {
		return l[max(len(l)-most, 0):]
	}
	near := []int{}
	for _, x := range l {
		if within(x, t) {
			near = append(near, x)
		}
	}
	near = append(near, t)
	return near[max(len(near)-limited(limit)-1, 0):]
}

// step runs Step, and holds it against what is wanted.
func step(t *testing.T, l []int, at int, drop bool, limit int, want []int) []int {
	t.Helper()
	before := slices.Clone(l)
	got := pane.Step(l, at, drop, limit)
	if !slices.Equal(got, want) {
		t.Fatalf("Step(%v, %d, %v, %d): %v, want %v", l, at, drop, limit, got, want)
	}
	if !slices.Equal(l, before) {
		t.Fatalf("Step(%v, %d, %v, %d) changed it: %v", before, at, drop, limit, l)
	}
	return got
}

// over runs Over, and holds it against what is wanted.
func over(t *testing.T, l []int, at, limit int, want bool) {
	t.Helper()
	before := slices.Clone(l)
	if got := pane.Over(l, at, limit); got != want {
		t.Fatalf("Over(%v, %d, %d): %v", l, at, limit, got)
	}
	if !slices.Equal(l, before) {
		t.Fatalf("Over(%v, %d, %d) changed it: %v", before, at, limit, l)
	}
}

// P26.1: without a drop the last 512 times, whatever the tick and the limit are.
func TestStepWithoutADrop(t *testing.T) {
	for _, limit := range []int{math.MinInt, -1, 0, 1, 5, 510, 511, 512, math.MaxInt} {
		for _, at := range []int{math.MinInt, -1, 0, 9, 100000, math.MaxInt} {
			step(t, nil, at, false, limit, nil)
			step(t, []int{}, at, false, limit, nil)
			step(t, []int{7, 3, 99, 3}, at, false, limit, []int{7, 3, 99, 3})
			step(t, []int{math.MaxInt, math.MinInt}, at, false, limit, []int{math.MaxInt, math.MinInt})
			step(t, upTo(1, 511), at, false, limit, upTo(1, 511))
			step(t, upTo(1, 512), at, false, limit, upTo(1, 512))
			step(t, upTo(1, 513), at, false, limit, upTo(2, 513))
			step(t, upTo(1, 2000), at, false, limit, upTo(1489, 2000))
		}
	}
}

// P26.1: at a drop what is a minute old goes, and one more than the limit stay.
func TestStepAtADrop(t *testing.T) {
	rows := []struct {
		l    []int
		at   int
		lim  int
		want []int
	}{
		{nil, 0, 0, []int{0}}, {nil, 7, 3, []int{7}}, {[]int{1}, 2, 0, []int{2}}, {[]int{1}, 2, 1, []int{1, 2}}, {[]int{1, 2}, 3, 1, []int{2, 3}}, {[]int{1, 2, 3}, 4, 2, []int{2, 3, 4}}, {[]int{1, 2, 3}, 4, 3, []int{1, 2, 3, 4}},
		{[]int{0, 1, 2}, 5999, 9, []int{0, 1, 2, 5999}}, {[]int{0, 1, 2}, 6000, 9, []int{1, 2, 6000}}, {[]int{0, 1, 2}, 6001, 9, []int{2, 6001}}, {[]int{0, 1, 2}, 6002, 9, []int{6002}}, {[]int{0, 1, 2}, 60020, 9, []int{60020}},
		{[]int{8, 9, 10}, 9, 9, []int{8, 9, 9}}, {[]int{10, 8, 9}, 9, 9, []int{8, 9, 9}}, {[]int{-5, -6000, -5999}, 0, 9, []int{-5, -5999, 0}}, {[]int{3, 3, 3}, 3, 2, []int{3, 3, 3}},
		{upTo(1, 9), 10, -1, []int{10}}, {upTo(1, 9), 10, math.MinInt, []int{10}}, {upTo(1, 9), 10, 0, []int{10}}, {upTo(1, 9), 10, 1, []int{9, 10}},
		{upTo(1, 600), 601, 510, upTo(91, 601)}, {upTo(1, 600), 601, 511, upTo(90, 601)}, {upTo(1, 600), 601, 512, upTo(90, 601)}, {upTo(1, 600), 601, math.MaxInt, upTo(90, 601)}, {upTo(1, 511), 512, 511, upTo(1, 512)},
	}
	for _, r := range rows {
		step(t, r.l, r.at, true, r.lim, r.want)
	}
}

// P26.1: times beyond the limits are held as they count, and kept as they are.
func TestStepOfTimesBeyond(t *testing.T) {
	step(t, []int{api.Top - 6000, api.Top - 5999, api.Top, math.MaxInt}, math.MaxInt, true, 9, []int{api.Top - 5999, api.Top, math.MaxInt, math.MaxInt})
	step(t, []int{math.MinInt, -api.Top, 5, -api.Top + 1}, -api.Top, true, 9, []int{-api.Top})
	step(t, []int{math.MinInt, -api.Top, 5, -api.Top + 1}, -api.Top+6000, true, 9, []int{-api.Top + 1, -api.Top + 6000})
	step(t, []int{3, 4}, math.MinInt, true, 9, []int{math.MinInt})
	step(t, []int{3, 4}, api.Top+1, true, 9, []int{api.Top + 1})
}

// P26.2: more than the limit within the minute up to the tick.
func TestOver(t *testing.T) {
	rows := []struct {
		l    []int
		at   int
		lim  int
		want bool
	}{
		{nil, 0, 0, false}, {nil, 0, -1, false}, {nil, 9, math.MinInt, false}, {[]int{5}, 5, 0, true}, {[]int{5}, 5, -3, true}, {[]int{5}, 5, 1, false}, {[]int{5}, 4, 0, false},
		{[]int{1, 2, 3}, 3, 2, true}, {[]int{1, 2, 3}, 3, 3, false}, {[]int{1, 2, 3}, 2, 2, false}, {[]int{1, 2, 3}, 2, 1, true}, {[]int{1, 2, 3}, 6000, 2, true}, {[]int{1, 2, 3}, 6001, 2, false}, {[]int{1, 2, 3}, 6001, 1, true},
		{[]int{1, 2, 3}, 6002, 1, false}, {[]int{1, 2, 3}, 6002, 0, true}, {[]int{1, 2, 3}, 6003, 0, false}, {[]int{0}, 5999, 0, true}, {[]int{0}, 6000, 0, false},
		{upTo(1, 511), 511, 510, true}, {upTo(1, 511), 511, 511, false}, {upTo(1, 512), 512, 511, true}, {upTo(1, 512), 512, 512, true}, {upTo(1, 512), 512, math.MaxInt, true}, {upTo(1, 511), 511, math.MaxInt, false}, {upTo(1, 3000), 3000, 3000, true}, {upTo(1, 3000), 512, 700, true}, {upTo(1, 3000), 511, 700, false},
		{[]int{math.MaxInt, api.Top, api.Top + 1}, api.Top, 2, true}, {[]int{math.MinInt, -api.Top}, math.MinInt, 0, false}, {[]int{math.MinInt, -api.Top + 1}, -api.Top + 6000, 0, true},
	}
	for _, r := range rows {
		over(t, r.l, r.at, r.lim, r.want)
	}
}

// anyTimes are times about a tick, some of them any.
func anyTimes(rnd *rand.Rand, at int) []int {
	l := make([]int, rnd.Intn(20))
	for i := range l {
		l[i] = at - rnd.Intn(9000) + 500
		if rnd.Intn(20) == 0 {
			l[i] = int(rnd.Uint64()) >> rnd.Intn(63)
		}
	}
	return l
}

// P26.1 and P26.2: of any times they are what the chapter says.
func TestAnyTimes(t *testing.T) {
	rnd := rand.New(rand.NewSource(261))
	for range 30000 {
		at := rnd.Intn(20000) - 5000
		if rnd.Intn(20) == 0 {
			at = int(rnd.Uint64()) >> rnd.Intn(63)
		}
		l, limit := anyTimes(rnd, clamped(at)), rnd.Intn(24)-3
		drop := rnd.Intn(2) == 0
		step(t, l, at, drop, limit, wantedStep(l, at, drop, limit))
		over(t, l, at, limit, many(l, at) > limited(limit))
	}
}

// watch runs ticks, of which some have a drop, and holds each against all drops
// that ever were.
func watch(t *testing.T, rnd *rand.Rand, ticks, limit, often int) {
	t.Helper()
	all, l := []int{}, []int(nil)
	for at := 1; at <= ticks; at++ {
		drop := rnd.Intn(often) == 0
		if drop {
			all = append(all, at)
		}
		l = pane.Step(l, at, drop, limit)
		if got, want := pane.Over(l, at, limit), many(all[max(len(all)-2000, 0):], at) > limited(limit); got != want {
			t.Fatalf("limit %d, tick %d: %v, want %v", limit, at, got, want)
		}
	}
}

// P26.3: over just if more drops than the limit fell in the last minute, of all
// that ever did.
func TestOverJustIfThereAreTooMany(t *testing.T) {
	rnd := rand.New(rand.NewSource(263))
	for _, limit := range []int{-1, 0, 1, 2, 9, 28} {
		watch(t, rnd, 20000, limit, minute/(limited(limit)+1))
	}
	watch(t, rnd, 14000, 508, 12)
	watch(t, rnd, 14000, 511, 12)
	watch(t, rnd, 14000, 9999, 12)
}

// P26.3: at once with the drop that is one too many, till a minute has gone by
// since the first of these.
func TestOverAtOnceAndForHowLong(t *testing.T) {
	for _, limit := range []int{0, 1, 2, 8, 28, 100, 508, 511} {
		l, first := []int(nil), 1000
		for k := range limit + 1 {
			at := first + 10*k
			over(t, l, at, limit, false)
			l = pane.Step(l, at, true, limit)
			over(t, l, at, limit, k == limit)
		}
		for at := first + 10*limit + 1; at < first+minute; at++ {
			l = pane.Step(l, at, false, limit)
			over(t, l, at, limit, true)
		}
		for at := first + minute; at < first+minute+50; at++ {
			l = pane.Step(l, at, false, limit)
			over(t, l, at, limit, false)
		}
	}
}

// drip lets drops of a pace come, drop k at k times the hour by so many an hour,
// rounded down, or up.
func drip(t *testing.T, hourly, limit, shift int) {
	t.Helper()
	l := []int(nil)
	for k := range 2*hourly/60 + 20 {
		at := (k*api.Hour + shift) / hourly
		l = pane.Step(l, at, true, limit)
		if pane.Over(l, at, limit) {
			t.Fatalf("%d drops an hour: too many at %d", hourly, at)
		}
	}
}

// P26.4: at each rate of each set that a programme may have, the drops of its
// own pace are no more than those of a minute and 8.
func TestTheOwnPaceIsNeverTooMany(t *testing.T) {
	for _, set := range []int{10, 15, 20, 60} {
		for rate := 5; rate*set <= 30000 && rate <= 1000; rate += 1 + rate/30 {
			hourly := rate * set
			drip(t, hourly, hourly/60+8, 0)
			drip(t, hourly, hourly/60+8, hourly-1)
		}
	}
}

// R3: what is answered is new memory, and nothing is written behind a list's end.
func TestMemory(t *testing.T) {
	for _, drop := range []bool{false, true} {
		room := []int{1, 2, 3, 77, 78}
		l := room[:3]
		got := pane.Step(l, 4, drop, 9)
		got = append(got, 50)
		for i := range got {
			got[i] = 99
		}
		if !slices.Equal(room, []int{1, 2, 3, 77, 78}) {
			t.Fatalf("drop %v: %v", drop, room)
		}
	}
}

// R4: nothing is kept from call to call.
func TestNothingIsKept(t *testing.T) {
	for range 3 {
		step(t, []int{1, 2}, 3, true, 5, []int{1, 2, 3})
		step(t, []int{1, 2}, 3, false, 5, []int{1, 2})
		over(t, []int{1, 2}, 3, 1, true)
		over(t, nil, 3, 1, false)
	}
}

// The chapter's example: three drops, of at most two.
func TestExample(t *testing.T) {
	l := []int(nil)
	for k, at := range []int{10, 20, 30} {
		l = pane.Step(l, at, true, 2)
		over(t, l, at, 2, k == 2)
	}
}
