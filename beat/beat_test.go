package beat_test

import (
	"math"
	"math/rand"
	"slices"
	"testing"

	"pinchcock/api"
	"pinchcock/beat"
	"pinchcock/dropset"
	"pinchcock/rate"
)

// sets are those that are known.
var sets = []int{10, 15, 20, 60}

// strangers are no sets.
var strangers = []int{math.MinInt, -60, -20, -1, 0, 1, 9, 11, 14, 16, 19, 21, 59, 61, 100, 1<<32 + 20, 256 + 10, api.Top, math.MaxInt}

// at is a beat whose last drop was at last, with these times.
func at(last int, times ...int) api.Beat {
	return api.Beat{Any: true, Last: last, L: times}
}

// never is a beat without a drop, with these times.
func never(last int, times ...int) api.Beat {
	return api.Beat{Last: last, L: times}
}

// same is whether both are the same beat.
func same(a, b api.Beat) bool {
	return a.Any == b.Any && a.Last == b.Last && slices.Equal(a.L, b.L)
}

// dripped is the beat behind drops at these ticks.
func dripped(drops ...int) api.Beat {
	b := api.Beat{}
	for _, t := range drops {
		b = beat.Step(b, t, true)
	}
	return b
}

// step is a row of Step.
type step struct {
	b    api.Beat
	t    int
	drop bool
	want api.Beat
}

// steps runs the rows.
func steps(t *testing.T, rows []step) {
	t.Helper()
	for _, r := range rows {
		was := api.Beat{Any: r.b.Any, Last: r.b.Last, L: slices.Clone(r.b.L)}
		if got := beat.Step(r.b, r.t, r.drop); !same(got, r.want) {
			t.Fatalf("Step(%+v, %d, %v): %+v, want %+v", r.b, r.t, r.drop, got, r.want)
		}
		if !same(r.b, was) {
			t.Fatalf("changed: %+v, was %+v", r.b, was)
		}
	}
}

// answer is what a call tells.
type answer struct {
	n  int
	ok bool
}

// none is what a call tells of nothing.
var none = answer{0, false}

// told is a number that is there.
func told(n int) answer {
	return answer{n, true}
}

// from is what a call told.
func from(n int, ok bool) answer {
	return answer{n, ok}
}

// gap is a row of Gap.
type gap struct {
	b    api.Beat
	t    int
	want answer
}

// gaps runs the rows.
func gaps(t *testing.T, rows []gap) {
	t.Helper()
	for _, r := range rows {
		if got := from(beat.Gap(r.b, r.t)); got != r.want {
			t.Fatalf("Gap(%+v, %d): %v, want %v", r.b, r.t, got, r.want)
		}
	}
}

// less is a less b, as sat.Sub has it.
func less(a, b int) int {
	counted := func(n int) int { return min(max(n, -api.Top), api.Top) }
	return counted(counted(a) - counted(b))
}

// lastFive are the last five of l.
func lastFive(l []int) []int {
	return l[max(len(l)-5, 0):]
}

// wantedStep is what Step is to tell.
func wantedStep(b api.Beat, t int, drop bool) api.Beat {
	all := slices.Clone(b.L)
	if drop && b.Any {
		all = append(all, max(less(t, b.Last), 1))
	}
	if drop {
		return api.Beat{Any: true, Last: t, L: lastFive(all)}
	}
	return api.Beat{Any: b.Any, Last: b.Last, L: lastFive(all)}
}

// wantedGap is what Gap is to tell: the middle one has no more less ones than
// greater ones behind it.
func wantedGap(b api.Beat, t int) answer {
	if !b.Any || len(b.L) == 0 {
		return none
	}
	five := slices.Clone(lastFive(b.L))
	slices.Sort(five)
	return told(max(five[(len(five)-1)/2], less(t, b.Last), 1))
}

// anyTime is a time as it may be, or any number.
func anyTime(rnd *rand.Rand) int {
	switch rnd.Intn(6) {
	case 0:
		return int(rnd.Uint64()) >> rnd.Intn(63)
	case 1:
		return -rnd.Intn(300)
	}
	return rnd.Intn(1000)
}

// anyBeat is a beat of such times.
func anyBeat(rnd *rand.Rand) api.Beat {
	b := api.Beat{Any: rnd.Intn(4) > 0, Last: anyTime(rnd)}
	for range rnd.Intn(8) {
		b.L = append(b.L, anyTime(rnd))
	}
	return b
}

// P24.1: the first drop is noted, each other one with the time since the last.
func TestStep(t *testing.T) {
	steps(t, []step{
		{api.Beat{}, 0, false, api.Beat{}}, {api.Beat{}, 700, false, api.Beat{}}, {api.Beat{}, 0, true, at(0)}, {api.Beat{}, 100, true, at(100)},
		{at(100), 400, true, at(400, 300)}, {at(100), 400, false, at(100)}, {at(400, 300), 650, true, at(650, 300, 250)}, {at(400, 300), 9000, false, at(400, 300)},
		{at(0), 1, true, at(1, 1)}, {at(9, 1, 2, 3, 4), 14, true, at(14, 1, 2, 3, 4, 5)}, {at(9, 1, 2, 3, 4, 5), 15, true, at(15, 2, 3, 4, 5, 6)}, {at(9, 1, 2, 3, 4, 5), 15, false, at(9, 1, 2, 3, 4, 5)},
	})
}

// P24.1: the time is 1 at least, and at most Top; the drop is noted at the tick
// as it is.
func TestStepAtAnyTick(t *testing.T) {
	steps(t, []step{
		{at(100), 100, true, at(100, 1)}, {at(100), 99, true, at(99, 1)}, {at(100), -5, true, at(-5, 1)}, {at(-5), 5, true, at(5, 10)}, {at(100), 101, true, at(101, 1)}, {at(100), 102, true, at(102, 2)},
		{at(0), api.MaxTick, true, at(api.MaxTick, api.MaxTick)}, {at(0), api.Top, true, at(api.Top, api.Top)}, {at(0), api.Top + 9, true, at(api.Top+9, api.Top)}, {at(-9), api.Top, true, at(api.Top, api.Top)},
		{at(api.Top), api.Top + 9, true, at(api.Top+9, 1)}, {at(math.MinInt), math.MaxInt, true, at(math.MaxInt, api.Top)}, {at(math.MaxInt), math.MinInt, true, at(math.MinInt, 1)},
		{at(math.MinInt), -api.Top + 3, true, at(-api.Top+3, 3)}, {api.Beat{}, math.MaxInt, true, at(math.MaxInt)}, {api.Beat{}, math.MinInt, true, at(math.MinInt)}, {at(math.MaxInt, 7), math.MinInt, false, at(math.MaxInt, 7)},
	})
}

// P24.1: of more than five times the last five stay, also without a drop, as they
// are; without a drop ahead no time is added.
func TestStepOfOtherBeats(t *testing.T) {
	steps(t, []step{
		{at(9, 1, 2, 3, 4, 5, 6, 7), 10, false, at(9, 3, 4, 5, 6, 7)}, {at(9, 1, 2, 3, 4, 5, 6, 7), 10, true, at(10, 4, 5, 6, 7, 1)}, {at(9, 1, 2, 3, 4, 5, 6), 10, false, at(9, 2, 3, 4, 5, 6)},
		{never(9, 1, 2), 20, true, at(20, 1, 2)}, {never(9, 1, 2), 20, false, never(9, 1, 2)}, {never(9, 1, 2, 3, 4, 5, 6), 20, true, at(20, 2, 3, 4, 5, 6)}, {never(9, 1, 2, 3, 4, 5, 6), 20, false, never(9, 2, 3, 4, 5, 6)}, {never(9), 20, true, at(20)},
		{at(9, -1, 0, math.MinInt, math.MaxInt), 10, false, at(9, -1, 0, math.MinInt, math.MaxInt)}, {at(9, -1, 0, math.MinInt, math.MaxInt), 10, true, at(10, -1, 0, math.MinInt, math.MaxInt, 1)},
	})
	rnd := rand.New(rand.NewSource(241))
	for range 20000 {
		b, tick, drop := anyBeat(rnd), anyTime(rnd), rnd.Intn(2) == 0
		steps(t, []step{{b, tick, drop, wantedStep(b, tick, drop)}})
	}
}

// P24.2: the middle one of the times, or the time since the last drop, if that is
// greater.
func TestGap(t *testing.T) {
	gaps(t, []gap{
		{at(700, 300, 300), 700, told(300)}, {at(700, 300, 300), 999, told(300)}, {at(700, 300, 300), 1000, told(300)}, {at(700, 300, 300), 1001, told(301)}, {at(700, 300, 300), 9700, told(9000)},
		{at(100, 5, 1, 9), 100, told(5)}, {at(100, 1, 2, 3, 4), 100, told(2)}, {at(100, 7, 3), 100, told(3)}, {at(100, 7), 100, told(7)}, {at(100, 1, 9, 2, 8, 3), 100, told(3)},
		{at(100, 900, 900, 900, 1, 2, 3, 4, 5), 100, told(3)}, {at(100, 1, 9, 2, 8, 3), 103, told(3)}, {at(100, 1, 9, 2, 8, 3), 104, told(4)},
	})
}

// P24.2: it is 1 at least, whatever there is.
func TestGapOfNumbersBeyond(t *testing.T) {
	gaps(t, []gap{
		{at(100, 1), 100, told(1)}, {at(100, 1), 50, told(1)}, {at(100, 0), 100, told(1)}, {at(100, -5, -6), 100, told(1)}, {at(100, -5), 101, told(1)}, {at(100, -5), 102, told(2)}, {at(100, math.MinInt), math.MinInt, told(1)},
		{at(100, 7), 50, told(7)}, {at(100, 7), math.MinInt, told(7)}, {at(0, 7), api.Top, told(api.Top)}, {at(0, 7), math.MaxInt, told(api.Top)}, {at(math.MinInt, 7), math.MaxInt, told(api.Top)}, {at(api.Top, 7), math.MaxInt, told(7)},
		{at(math.MaxInt, 7), math.MinInt, told(7)}, {at(100, api.Top), 100, told(api.Top)},
	})
}

// P24.2: nothing without a drop, or without a time.
func TestNoGap(t *testing.T) {
	for _, tick := range []int{math.MinInt, -1, 0, 1, 100, 9000, api.Top, math.MaxInt} {
		gaps(t, []gap{{api.Beat{}, tick, none}, {at(100), tick, none}, {at(0), tick, none}, {never(0, 300), tick, none}, {never(100, 300, 300, 300), tick, none}, {api.Beat{Any: true, L: []int{}}, tick, none}})
	}
}

// P24.2: of any beat it is what the chapter tells.
func TestGapOfAnyBeat(t *testing.T) {
	rnd := rand.New(rand.NewSource(242))
	for range 20000 {
		b, tick := anyBeat(rnd), anyTime(rnd)
		gaps(t, []gap{{b, tick, wantedGap(b, tick)}})
	}
}

// P24.3: the rate of the gap and of the set.
func TestRate(t *testing.T) {
	rnd := rand.New(rand.NewSource(243))
	rows := []struct {
		b      api.Beat
		t, set int
		want   answer
	}{
		{at(700, 300, 300), 700, 20, told(60000)}, {at(700, 300, 300), 700, 10, told(120000)}, {at(700, 300, 300), 700, 15, told(80000)}, {at(700, 300, 300), 700, 60, told(20000)},
		{at(700, 300, 300), 1300, 20, told(30000)}, {at(700, 300, 300), 1001, 20, told(59800)}, {at(700, -3), 700, 10, told(36000000)}, {at(0, 7), math.MaxInt, 10, told(0)},
		{at(700), 700, 20, none}, {never(700, 300), 700, 20, none}, {api.Beat{}, 700, 20, none}, {at(700, 300), 700, 21, none}, {at(700, 300), 700, 0, none},
	}
	for _, r := range rows {
		if got := from(beat.Rate(r.b, r.t, r.set)); got != r.want {
			t.Errorf("Rate(%+v, %d, %d): %v, want %v", r.b, r.t, r.set, got, r.want)
		}
	}
	for range 10000 {
		b, tick, set := anyBeat(rnd), anyTime(rnd), sets[rnd.Intn(4)]
		want := none
		if ticks := wantedGap(b, tick); ticks.ok {
			want = from(rate.Of(ticks.n, set))
		}
		if got := from(beat.Rate(b, tick, set)); got != want {
			t.Fatalf("Rate(%+v, %d, %d): %v, want %v", b, tick, set, got, want)
		}
	}
}

// P24.3: nothing of a set that is not known.
func TestNoRateOfStrangers(t *testing.T) {
	for _, set := range strangers {
		for _, b := range []api.Beat{{}, at(100), at(100, 300), never(100, 300), at(700, 300, 300, 300, 300, 300)} {
			if got := from(beat.Rate(b, 700, set)); got != none {
				t.Errorf("Rate(%+v, 700, %d): %v", b, set, got)
			}
		}
	}
}

// P24.4: drops that come as regularly as they should, of each rate and set, are
// told as just that rate, from the second one on, at the drops and between them.
func TestRegularDrops(t *testing.T) {
	for _, set := range sets {
		for r := 1; r <= 1000; r++ {
			every, _ := dropset.Every(r, set)
			want := from(rate.Of(every, set))
			b := api.Beat{}
			for drop := range 8 {
				now := 17 + drop*every
				b = beat.Step(b, now, true)
				for _, tick := range []int{now, now + every/2, now + every} {
					got := from(beat.Rate(b, tick, set))
					if drop == 0 && got != none || drop > 0 && got != want {
						t.Fatalf("%d of the set %d, drop %d: %v, want %v", r, set, drop, got, want)
					}
				}
			}
		}
	}
}

// P24.4: one drop that is missed, or one that is seen twice, among five, changes
// nothing at any drop behind it, or till the next one is due.
func TestOneDropThatIsWrong(t *testing.T) {
	for _, every := range []int{7, 60, 300, 7200} {
		for wrong := 6; wrong <= 10; wrong++ {
			for _, extra := range []int{0, 1, 5, every / 2, every - 1} {
				b := api.Beat{}
				for drop := range 20 {
					now := drop * every
					if drop == wrong && extra == 0 {
						continue
					}
					b = beat.Step(b, now, true)
					if drop == wrong {
						b = beat.Step(b, now+extra, true)
					}
					if drop < 5 {
						continue
					}
					for _, tick := range []int{max(now, b.Last), now + every} {
						if got := from(beat.Gap(b, tick)); got != told(every) {
							t.Fatalf("each %d ticks, the drop %d is wrong by %d: %v at the drop %d", every, wrong, extra, got, drop)
						}
					}
				}
			}
		}
	}
}

// P24.5: as long as no drop comes, it is told never to drip faster.
func TestNeverFasterWithoutADrop(t *testing.T) {
	rnd := rand.New(rand.NewSource(245))
	for range 2000 {
		b, set := anyBeat(rnd), sets[rnd.Intn(4)]
		was, ok := beat.Rate(b, b.Last, set)
		for now := b.Last; now < b.Last+3000 && now < math.MaxInt-200; now += 1 + rnd.Intn(100) {
			b = beat.Step(b, now, false)
			got, there := beat.Rate(b, now, set)
			if there != ok || got > was {
				t.Fatalf("%+v at %d: %d, %v, was %d, %v", b, now, got, there, was, ok)
			}
			was = got
		}
	}
}

// R3: what is answered shares no memory with what was handed in, nor does it lie
// in the room behind its end.
func TestTimesAreNew(t *testing.T) {
	room := []int{1, 2, 3, 4, 5, 6, 7}
	for n := range room {
		for _, drop := range []bool{false, true} {
			b := api.Beat{Any: true, Last: 10, L: room[:n]}
			got := beat.Step(b, 20, drop)
			again := beat.Step(got, 30, true)
			if !slices.Equal(room, []int{1, 2, 3, 4, 5, 6, 7}) {
				t.Fatalf("changed: %v", room)
			}
			if again.L[0] = 99; !same(got, wantedStep(b, 20, drop)) {
				t.Fatalf("%+v is changed by what is answered of it", got)
			}
		}
	}
}

// R4: nothing is kept from call to call.
func TestNothingIsKept(t *testing.T) {
	for range 3 {
		steps(t, []step{{api.Beat{}, 100, true, at(100)}, {at(100), 400, true, at(400, 300)}})
		gaps(t, []gap{{at(700, 300, 300), 700, told(300)}, {api.Beat{}, 700, none}})
	}
}

// The chapter's example: drops at 100, 400 and 700.
func TestExample(t *testing.T) {
	b := dripped(100, 400, 700)
	if !same(b, at(700, 300, 300)) {
		t.Errorf("%+v", b)
	}
	gaps(t, []gap{{b, 700, told(300)}})
}
