package dropset_test

import (
	"math"
	"math/big"
	"math/rand"
	"slices"
	"testing"

	"pinchcock/api"
	"pinchcock/dropset"
)

// sets are those that are known.
var sets = []int{10, 15, 20, 60}

// strangers are no sets: what is near one, what a set would be with other bits
// above it, and what lies at the limits.
var strangers = []int{
	math.MinInt, -api.Top, -60, -20, -15, -10, -1, 0, 1, 5, 9, 11, 12, 14, 16, 19, 21, 30, 59, 61, 100, 600, 1000,
	1<<32 + 20, 256 + 10, 1<<62 + 60, api.Top, api.Top + 10, math.MaxInt,
}

// amounts are drops, volumes, and such as are none: each limit, and those that
// lie at it when they are made drops or volumes of each set.
func amounts() []int {
	rnd := rand.New(rand.NewSource(9))
	all := []int{math.MinInt, math.MinInt + 1, -api.Top - 1, -api.Top, -1000, -2, -1, math.MaxInt - 1, math.MaxInt}
	for _, edge := range []int{2000, api.MaxVolume, api.Top, api.Top / 1000 * 10, api.Top / 1000 * 15, api.Top / 1000 * 20, api.Top / 1000 * 60} {
		for off := -3000; off <= 3000; off++ {
			all = append(all, edge+off)
		}
	}
	for _, f := range sets {
		all = append(all, around(limitOfDrops(f), 40)...)
	}
	for range 3000 {
		all = append(all, int(rnd.Uint64()>>1)>>rnd.Intn(63))
	}
	return all
}

// around are the numbers that are no further from n than that.
func around(n, far int) []int {
	all := []int{}
	for off := -far; off <= far; off++ {
		all = append(all, n+off)
	}
	return all
}

// limitOfDrops is the greatest count of drops whose volume is not beyond Top.
func limitOfDrops(f int) int {
	n := product(api.Top+1, f)
	n.Sub(n, big.NewInt(1))
	return int(n.Div(n, big.NewInt(1000)).Int64())
}

// product is a times b, without an end.
func product(a, b int) *big.Int {
	return new(big.Int).Mul(big.NewInt(int64(a)), big.NewInt(int64(b)))
}

// counts is n as it counts.
func counts(n int) int {
	return min(max(n, -api.Top), api.Top)
}

// volumeOf is the volume of so many drops of a set that is known, by numbers
// without an end, and whether there is one.
func volumeOf(drops, f int) (int, bool) {
	if drops < 0 {
		return 0, false
	}
	volume := product(counts(drops), 1000)
	volume.Div(volume, big.NewInt(int64(f)))
	if volume.Cmp(big.NewInt(api.Top)) > 0 {
		return 0, false
	}
	return int(volume.Int64()), true
}

// enough tells whether so many drops, times 1000, are not below the volume times
// the set.
func enough(drops, volume, f int) bool {
	return product(drops, 1000).Cmp(product(counts(volume), f)) >= 0
}

// hourly is how many drops an hour has.
func hourly(rate, f int) int {
	return rate * f
}

// answer is what a call tells.
type answer struct {
	n  int
	ok bool
}

// none is what a call tells of nothing.
var none = answer{0, false}

// told is a number that is there.
func told(n int) answer {
	return answer{n, true}
}

// from is what a call told.
func from(n int, ok bool) answer {
	return answer{n, ok}
}

// row is what a call is given, and what is wanted.
type row struct {
	n, f int
	want answer
}

// runs runs the rows.
func runs(t *testing.T, name string, call func(int, int) (int, bool), rows []row) {
	t.Helper()
	for _, r := range rows {
		if got := from(call(r.n, r.f)); got != r.want {
			t.Errorf("%s(%d, %d): %v, want %v", name, r.n, r.f, got, r.want)
		}
	}
}

// each hands each rate and each set that there are on.
func each(do func(rate, f int)) {
	for _, f := range sets {
		for rate := 1; rate <= 1000; rate++ {
			do(rate, f)
		}
	}
}

// P9.1: four are known, and no others.
func TestKnown(t *testing.T) {
	for _, f := range sets {
		if !dropset.Known(f) {
			t.Errorf("%d is not known", f)
		}
	}
	for _, f := range strangers {
		if dropset.Known(f) {
			t.Errorf("%d is known", f)
		}
	}
	for f := -1000; f <= 100000; f++ {
		if want := f == 10 || f == 15 || f == 20 || f == 60; dropset.Known(f) != want {
			t.Fatalf("Known(%d): %v", f, !want)
		}
	}
}

// P9.2: rounded down; nothing of fewer than 0, and nothing beyond Top.
func TestVolume(t *testing.T) {
	runs(t, "Volume", dropset.Volume, []row{
		{2, 15, told(133)}, {15, 15, told(1000)}, {1, 15, told(66)}, {0, 15, told(0)}, {3, 15, told(200)}, {14, 15, told(933)},
		{0, 10, told(0)}, {1, 10, told(100)}, {7, 10, told(700)}, {1, 20, told(50)}, {21, 20, told(1050)},
		{1, 60, told(16)}, {2, 60, told(33)}, {3, 60, told(50)}, {59, 60, told(983)}, {60, 60, told(1000)},
		{-1, 10, none}, {-1, 60, none}, {-15, 15, none}, {-api.Top, 20, none}, {math.MinInt, 10, none}, {math.MinInt, 60, none},
		{api.Top / 100, 10, told(api.Top / 100 * 100)}, {api.Top/100 + 1, 10, none}, {api.Top, 10, none}, {api.Top, 60, none},
		{api.Top / 50, 20, told(api.Top / 50 * 50)}, {api.Top/50 + 1, 20, none}, {math.MaxInt, 10, none}, {math.MaxInt, 60, none},
		{135107988821114, 15, told(9007199254740933)}, {135107988821115, 15, none},
		{540431955284459, 60, told(9007199254740983)}, {540431955284460, 60, none},
	})
}

// P9.2: as numbers without an end are divided.
func TestVolumeIsTheVolume(t *testing.T) {
	for _, drops := range amounts() {
		for _, f := range sets {
			if got, want := from(dropset.Volume(drops, f)), from(volumeOf(drops, f)); got != want {
				t.Fatalf("Volume(%d, %d): %v, want %v", drops, f, got, want)
			}
		}
	}
}

// P9.3: rounded up; nothing of less than 0.
func TestDrops(t *testing.T) {
	runs(t, "Drops", dropset.Drops, []row{
		{134, 15, told(3)}, {133, 15, told(2)}, {67, 15, told(2)}, {66, 15, told(1)}, {1, 15, told(1)}, {0, 15, told(0)}, {1000, 15, told(15)},
		{1001, 15, told(16)}, {999, 15, told(15)}, {0, 10, told(0)}, {1, 10, told(1)}, {100, 10, told(1)}, {101, 10, told(2)},
		{50, 20, told(1)}, {51, 20, told(2)}, {16, 60, told(1)}, {17, 60, told(2)}, {33, 60, told(2)}, {34, 60, told(3)}, {1000, 60, told(60)},
		{1000, 20, told(20)}, {5000000, 20, told(100000)}, {api.MaxVolume, 60, told(6000000)}, {api.MaxVolume, 10, told(1000000)},
		{-1, 10, none}, {-1, 60, none}, {-1000, 20, none}, {-api.Top, 15, none}, {math.MinInt, 10, none}, {math.MinInt, 60, none},
		{api.Top, 10, told(90071992547410)}, {api.Top, 15, told(135107988821115)}, {api.Top, 20, told(180143985094820)},
		{api.Top, 60, told(540431955284460)}, {api.Top + 1, 60, told(540431955284460)}, {math.MaxInt, 60, told(540431955284460)},
		{math.MaxInt, 10, told(90071992547410)},
	})
}

// P9.3: they are enough, and one less is not, by numbers without an end; also
// where there is no volume of so many.
func TestDropsAreTheLeastCount(t *testing.T) {
	for _, volume := range amounts() {
		for _, f := range sets {
			got := from(dropset.Drops(volume, f))
			if volume < 0 {
				if got != none {
					t.Fatalf("Drops(%d, %d): %v", volume, f, got)
				}
				continue
			}
			if !got.ok || got.n < 0 || !enough(got.n, volume, f) || enough(got.n-1, volume, f) {
				t.Fatalf("Drops(%d, %d): %v", volume, f, got)
			}
		}
	}
}

// P9.4: rounded down.
func TestEvery(t *testing.T) {
	runs(t, "Every", dropset.Every, []row{
		{60, 20, told(300)}, {1, 10, told(36000)}, {1, 15, told(24000)}, {1, 20, told(18000)}, {1, 60, told(6000)}, {5, 10, told(7200)},
		{7, 10, told(5142)}, {1000, 10, told(36)}, {1000, 15, told(24)}, {1000, 20, told(18)}, {1000, 60, told(6)}, {999, 60, told(6)},
		{857, 60, told(7)}, {858, 60, told(6)}, {500, 60, told(12)}, {501, 60, told(11)}, {125, 20, told(144)}, {999, 15, told(24)}, {998, 15, told(24)},
	})
	each(func(rate, f int) {
		got := from(dropset.Every(rate, f))
		if !got.ok || got.n*hourly(rate, f) > 360000 || (got.n+1)*hourly(rate, f) <= 360000 {
			t.Fatalf("Every(%d, %d): %v", rate, f, got)
		}
	})
}

// P9.5: rounded down, and 8 more.
func TestLimit(t *testing.T) {
	runs(t, "Limit", dropset.Limit, []row{
		{60, 20, told(28)}, {1, 10, told(8)}, {5, 10, told(8)}, {6, 10, told(9)}, {11, 10, told(9)}, {12, 10, told(10)}, {1, 15, told(8)},
		{3, 15, told(8)}, {4, 15, told(9)}, {1, 20, told(8)}, {3, 20, told(9)}, {1, 60, told(9)}, {2, 60, told(10)}, {500, 60, told(508)},
		{1000, 60, told(1008)}, {999, 60, told(1007)}, {1000, 10, told(174)}, {1000, 15, told(258)}, {1000, 20, told(341)}, {999, 20, told(341)},
	})
	each(func(rate, f int) {
		got := from(dropset.Limit(rate, f))
		if !got.ok || (got.n-8)*60 > hourly(rate, f) || (got.n-7)*60 <= hourly(rate, f) {
			t.Fatalf("Limit(%d, %d): %v", rate, f, got)
		}
	})
}

// P9.6: four times the ticks, the whole rounded down, and 50 more.
func TestTimeout(t *testing.T) {
	runs(t, "Timeout", dropset.Timeout, []row{
		{60, 20, told(1250)}, {1, 10, told(144050)}, {5, 10, told(28850)}, {7, 10, told(20621)}, {1, 15, told(96050)}, {1, 20, told(72050)},
		{1, 60, told(24050)}, {7, 60, told(3478)}, {1000, 10, told(194)}, {1000, 15, told(146)}, {1000, 20, told(122)}, {1000, 60, told(74)},
		{999, 60, told(74)}, {961, 60, told(74)}, {960, 60, told(75)}, {857, 60, told(78)}, {858, 60, told(77)},
	})
	each(func(rate, f int) {
		got := from(dropset.Timeout(rate, f))
		if !got.ok || (got.n-50)*hourly(rate, f) > 4*360000 || (got.n-49)*hourly(rate, f) <= 4*360000 {
			t.Fatalf("Timeout(%d, %d): %v", rate, f, got)
		}
	})
}

// P9.2 to P9.6: there is nothing of a set that is not known.
func TestNothingOfStrangers(t *testing.T) {
	for _, f := range strangers {
		for _, n := range []int{math.MinInt, -1, 0, 1, 2, 60, 134, 1000, 1001, api.Top, math.MaxInt} {
			runs(t, "Volume", dropset.Volume, []row{{n, f, none}})
			runs(t, "Drops", dropset.Drops, []row{{n, f, none}})
			runs(t, "Every", dropset.Every, []row{{n, f, none}})
			runs(t, "Limit", dropset.Limit, []row{{n, f, none}})
			runs(t, "Timeout", dropset.Timeout, []row{{n, f, none}})
		}
	}
}

// P9.4 to P9.6: there is nothing of a rate that is not from 1 to 1000.
func TestNothingOfOtherRates(t *testing.T) {
	for _, rate := range []int{
		math.MinInt, -api.Top, -1000, -60, -1, 0, 1001, 1002, 2000, 60000, 1<<32 + 60, 1<<63 - 1000, api.Top, api.Top + 60, math.MaxInt,
	} {
		for _, f := range sets {
			runs(t, "Every", dropset.Every, []row{{rate, f, none}})
			runs(t, "Limit", dropset.Limit, []row{{rate, f, none}})
			runs(t, "Timeout", dropset.Timeout, []row{{rate, f, none}})
		}
	}
}

// P9.7: so many drops are enough, and one less is not, wherever there is a
// volume of them.
func TestSoManyDropsAreEnough(t *testing.T) {
	for _, volume := range amounts() {
		for _, f := range sets {
			drops, ok := dropset.Drops(volume, f)
			if !ok {
				continue
			}
			if got := from(dropset.Volume(drops, f)); got.ok && got.n < counts(volume) {
				t.Fatalf("%d drops of %d are %d, and not %d", drops, f, got.n, volume)
			}
			if got := from(dropset.Volume(drops-1, f)); drops > 0 && (!got.ok || got.n >= counts(volume)) {
				t.Fatalf("one less than %d drops of %d is %v, enough for %d", drops, f, got, volume)
			}
		}
	}
}

// P9.7: of a volume of so many drops no more drops are needed.
func TestAVolumeNeedsItsDrops(t *testing.T) {
	for _, drops := range amounts() {
		for _, f := range sets {
			volume, ok := dropset.Volume(drops, f)
			if !ok {
				continue
			}
			if got := from(dropset.Drops(volume, f)); got != told(drops) {
				t.Fatalf("%d drops of %d are %d, which needs %v", drops, f, volume, got)
			}
		}
	}
}

// P9.7: volumes add up, but for one microlitre.
func TestVolumesAddUp(t *testing.T) {
	rnd := rand.New(rand.NewSource(97))
	for range 40000 {
		f := sets[rnd.Intn(4)]
		a, b := rnd.Intn(limitOfDrops(f)+1)>>rnd.Intn(50), rnd.Intn(1000)
		both, ok := dropset.Volume(a+b, f)
		if !ok {
			continue
		}
		one, _ := dropset.Volume(a, f)
		other, _ := dropset.Volume(b, f)
		if more := both - one - other; more < 0 || more > 1 {
			t.Fatalf("%d and %d drops of %d: %d more", a, b, f, more)
		}
	}
}

// most is how many of the times, which rise, are in one minute at the most.
func most(times []int) int {
	greatest, first := 0, 0
	for i, now := range times {
		for times[first] <= now-6000 {
			first++
		}
		greatest = max(greatest, i+1-first)
	}
	return greatest
}

// never checks that drops are never more in a minute than the limit.
func never(t *testing.T, rate, f int, times []int) {
	t.Helper()
	limit, ok := dropset.Limit(rate, f)
	if got := most(times); !ok || got > limit {
		t.Fatalf("%d drops in a minute at %d of %d, limit %d, %v", got, rate, f, limit, ok)
	}
}

// steady is when drops fall just as fast as they should: each in the tick in
// which it is due, from another part of a tick on.
func steady(rate, f, part int) []int {
	times := []int{}
	due := part % 360000
	for tick := range 13000 {
		if due += hourly(rate, f); due >= 360000 {
			due -= 360000
			times = append(times, tick)
		}
	}
	return times
}

// P9.8: drops that come just as fast as they should, and no faster.
func TestNeverMoreThanTheLimit(t *testing.T) {
	rnd := rand.New(rand.NewSource(98))
	each(func(rate, f int) {
		never(t, rate, f, steady(rate, f, rnd.Intn(360000)))
	})
}

// P9.8: drops that are now and then late, but never sooner behind the one ahead
// than they should.
func TestLateOnesAreNeverMore(t *testing.T) {
	rnd := rand.New(rand.NewSource(99))
	each(func(rate, f int) {
		times := []int{}
		least := (360000 + hourly(rate, f) - 1) / hourly(rate, f)
		for tick := 0; tick < 13000; tick += least + rnd.Intn(2)*rnd.Intn(3) {
			times = append(times, tick)
		}
		never(t, rate, f, times)
	})
}

// R4: nothing is kept from call to call.
func TestNothingIsKept(t *testing.T) {
	calls := []func(int, int) (int, bool){dropset.Volume, dropset.Drops, dropset.Every, dropset.Limit, dropset.Timeout}
	ask := func() []answer {
		all := []answer{}
		for _, call := range calls {
			for _, n := range []int{-1, 0, 1, 60, 1000, 1001} {
				for _, f := range append(slices.Clone(sets), 0, 61) {
					all = append(all, from(call(n, f)))
				}
			}
		}
		return all
	}
	once := ask()
	slices.Reverse(calls)
	ask()
	slices.Reverse(calls)
	if again := ask(); !slices.Equal(once, again) {
		t.Errorf("asked again: %v, was %v", again, once)
	}
}

// The chapter's examples.
func TestExamples(t *testing.T) {
	runs(t, "Volume", dropset.Volume, []row{{2, 15, told(133)}})
	runs(t, "Drops", dropset.Drops, []row{{134, 15, told(3)}})
	runs(t, "Every", dropset.Every, []row{{60, 20, told(300)}})
	runs(t, "Limit", dropset.Limit, []row{{60, 20, told(28)}})
}
