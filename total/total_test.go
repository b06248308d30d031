package total_test

import (
	"math"
	"math/big"
	"math/rand"
	"testing"

	"pinchcock/api"
	"pinchcock/total"
)

// most is how many drops are counted, and mostVolume the greatest volume.
const (
	most       = 9007199254740
	mostVolume = 99999999
)

// sets are those that are known.
var sets = []int{10, 15, 20, 60}

// strangers are no sets.
var strangers = []int{math.MinInt, -api.Top, -60, -20, -15, -10, -1, 0, 1, 9, 11, 14, 16, 19, 21, 30, 59, 61, 1000, 1<<32 + 20, 256 + 10, 1<<62 + 60, api.Top, math.MaxInt}

// of is a total.
func of(set, drops, base int) api.Total {
	return api.Total{Set: set, Drops: drops, Base: base}
}

// known is whether it is one of the sets.
func known(set int) bool {
	return set == 10 || set == 15 || set == 20 || set == 60
}

// counted is n as it counts, from 0 to high.
func counted(n, high int) int {
	return min(max(n, 0), high)
}

// wantedVolume is what Volume is to tell, by numbers without an end.
func wantedVolume(t api.Total) (int, bool) {
	all := big.NewInt(int64(counted(t.Base, mostVolume)))
	if known(t.Set) {
		fell := big.NewInt(int64(counted(t.Drops, most)))
		fell.Mul(fell, big.NewInt(1000))
		all.Add(all, fell.Div(fell, big.NewInt(int64(t.Set))))
	}
	if all.Cmp(big.NewInt(mostVolume)) > 0 {
		return mostVolume, true
	}
	return int(all.Int64()), false
}

// volume is a row of Volume.
type volume struct {
	t    api.Total
	want int
	over bool
}

// volumes runs the rows.
func volumes(t *testing.T, rows []volume) {
	t.Helper()
	for _, r := range rows {
		if got, over := total.Volume(r.t); got != r.want || over != r.over {
			t.Fatalf("Volume(%+v): %d, %v, want %d, %v", r.t, got, over, r.want, r.over)
		}
	}
}

// anyNumber is a number up to high, one beside these, or any.
func anyNumber(rnd *rand.Rand, high int) int {
	switch rnd.Intn(8) {
	case 0:
		return int(rnd.Uint64()) >> rnd.Intn(63)
	case 1:
		return -rnd.Intn(100)
	case 2:
		return high + rnd.Intn(100) - 50
	case 3:
		return rnd.Intn(200)
	}
	return rnd.Intn(high + 1)
}

// anyTotal is a total of such numbers.
func anyTotal(rnd *rand.Rand) api.Total {
	set := sets[rnd.Intn(4)]
	if rnd.Intn(8) == 0 {
		set = strangers[rnd.Intn(len(strangers))]
	}
	drops := anyNumber(rnd, most)
	if rnd.Intn(3) > 0 {
		drops = anyNumber(rnd, 6000000)
	}
	return of(set, drops, anyNumber(rnd, mostVolume))
}

// P25.1: what was there before, and what the drops are, rounded down.
func TestVolume(t *testing.T) {
	volumes(t, []volume{
		{api.Total{}, 0, false}, {of(20, 0, 0), 0, false}, {of(15, 15, 0), 1000, false}, {of(15, 1, 0), 66, false}, {of(15, 2, 0), 133, false}, {of(15, 3, 0), 200, false}, {of(15, 14, 0), 933, false},
		{of(10, 1, 0), 100, false}, {of(20, 1, 0), 50, false}, {of(60, 1, 0), 16, false}, {of(60, 59, 0), 983, false}, {of(60, 60, 0), 1000, false}, {of(15, 2, 7), 140, false}, {of(60, 1, 999), 1015, false},
		{of(20, 0, 12345), 12345, false}, {of(20, 20000, 1), 1000001, false}, {of(10, 999999, 0), 99999900, false}, {of(20, 3, mostVolume-150), mostVolume, false},
	})
}

// P25.1: at most MaxVolume, and only beyond that it would be more.
func TestVolumeAtItsLimit(t *testing.T) {
	volumes(t, []volume{
		{of(20, 0, mostVolume), mostVolume, false}, {of(20, 1, mostVolume), mostVolume, true}, {of(60, 1, mostVolume-16), mostVolume, false}, {of(60, 1, mostVolume-15), mostVolume, true}, {of(60, 1, mostVolume-17), mostVolume - 1, false},
		{of(10, 999999, 99), mostVolume, false}, {of(10, 999999, 100), mostVolume, true}, {of(10, 1000000, 0), mostVolume, true}, {of(60, 5999999, 0), 99999983, false}, {of(60, 6000000, 0), mostVolume, true},
		{of(15, 1499999, 0), 99999933, false}, {of(15, 1500000, 0), mostVolume, true}, {of(20, 1999999, 49), mostVolume, false}, {of(20, 1999999, 50), mostVolume, true},
		{of(10, most, 0), mostVolume, true}, {of(60, most, mostVolume), mostVolume, true},
	})
}

// P25.1: drops and what was before count as the nearest that may be; drops of a
// set that is not known are nothing.
func TestVolumeOfNumbersBeyond(t *testing.T) {
	for _, low := range []int{math.MinInt, math.MinInt + 1, -api.Top, -1 << 32, -20, -1} {
		volumes(t, []volume{{of(20, low, 70), 70, false}, {of(20, 3, low), 150, false}, {of(20, low, low), 0, false}, {of(7, low, low), 0, false}})
	}
	for _, high := range []int{mostVolume + 1, mostVolume + 2, 1 << 32, most, api.Top, math.MaxInt - 1, math.MaxInt} {
		volumes(t, []volume{{of(20, 0, high), mostVolume, false}, {of(20, 1, high), mostVolume, true}, {of(7, 1, high), mostVolume, false}, {of(20, -1, high), mostVolume, false}})
	}
	for _, high := range []int{most, most + 1, api.Top, api.Top + 1, 1 << 62, math.MaxInt - 1, math.MaxInt} {
		for _, set := range sets {
			volumes(t, []volume{{of(set, high, 0), mostVolume, true}, {of(set, high, -5), mostVolume, true}})
		}
	}
	for _, set := range strangers {
		volumes(t, []volume{{of(set, 0, 0), 0, false}, {of(set, 1000, 0), 0, false}, {of(set, 1000, 77), 77, false}, {of(set, math.MaxInt, mostVolume), mostVolume, false}})
	}
}

// P25.1: of any total it is what numbers without an end tell.
func TestVolumeOfAnyTotal(t *testing.T) {
	rnd := rand.New(rand.NewSource(251))
	for range 50000 {
		some := anyTotal(rnd)
		want, over := wantedVolume(some)
		volumes(t, []volume{{some, want, over}})
	}
}

// P25.2: one drop more, and nothing else.
func TestAdd(t *testing.T) {
	rows := []struct{ t, want api.Total }{
		{of(20, 0, 0), of(20, 1, 0)}, {of(20, 1, 7), of(20, 2, 7)}, {of(15, 999, mostVolume), of(15, 1000, mostVolume)}, {of(60, 1<<32-1, 5), of(60, 1<<32, 5)}, {of(10, 6000000, 3), of(10, 6000001, 3)},
		{api.Total{}, of(0, 1, 0)}, {of(7, 3, 4), of(7, 4, 4)}, {of(-7, 3, 4), of(-7, 4, 4)},
		{of(20, most-2, 0), of(20, most-1, 0)}, {of(20, most-1, 0), of(20, most, 0)}, {of(20, most, 0), of(20, most, 0)}, {of(20, most+1, 0), of(20, most, 0)}, {of(20, api.Top, 9), of(20, most, 9)}, {of(20, math.MaxInt, 9), of(20, most, 9)},
		{of(20, -1, 9), of(20, 1, 9)}, {of(20, -2, 9), of(20, 1, 9)}, {of(20, math.MinInt, 9), of(20, 1, 9)},
	}
	for _, r := range rows {
		if got := total.Add(r.t); got != r.want {
			t.Errorf("Add(%+v): %+v, want %+v", r.t, got, r.want)
		}
	}
}

// P25.2: of any total its volume is that of one drop more.
func TestAddToAnyTotal(t *testing.T) {
	rnd := rand.New(rand.NewSource(252))
	for range 20000 {
		some := anyTotal(rnd)
		more := some
		more.Drops = counted(counted(some.Drops, most)+1, most)
		got := total.Add(some)
		want, over := wantedVolume(more)
		volumes(t, []volume{{got, want, over}})
		if got.Set != some.Set || got.Drops != more.Drops {
			t.Fatalf("Add(%+v): %+v", some, got)
		}
	}
}

// P25.3: of the new set, without drops, what there was before being the volume.
func TestChange(t *testing.T) {
	rows := []struct {
		t    api.Total
		set  int
		want api.Total
	}{
		{of(20, 30, 7), 15, of(15, 0, 1507)}, {of(15, 2, 0), 20, of(20, 0, 133)}, {of(15, 2, 0), 15, of(15, 0, 133)}, {of(60, 1, 1), 10, of(10, 0, 17)}, {of(10, 0, 0), 60, of(60, 0, 0)},
		{api.Total{}, 20, of(20, 0, 0)}, {of(7, 100, 5), 20, of(20, 0, 5)}, {of(20, 0, mostVolume), 60, of(60, 0, mostVolume)}, {of(20, 1, mostVolume), 60, of(60, 0, mostVolume)},
		{of(20, math.MaxInt, math.MinInt), 10, of(10, 0, mostVolume)}, {of(20, -5, math.MaxInt), 10, of(10, 0, mostVolume)}, {of(20, -5, -5), 10, of(10, 0, 0)},
	}
	for _, r := range rows {
		if got, ok := total.Change(r.t, r.set); got != r.want || !ok {
			t.Errorf("Change(%+v, %d): %+v, %v, want %+v", r.t, r.set, got, ok, r.want)
		}
	}
	for _, set := range strangers {
		for _, some := range []api.Total{{}, of(20, 30, 7), of(set, 30, 7), of(60, math.MaxInt, math.MaxInt)} {
			if got, ok := total.Change(some, set); ok || got != (api.Total{}) {
				t.Errorf("Change(%+v, %d): %+v, %v", some, set, got, ok)
			}
		}
	}
}

// P25.4: not below so many millilitres.
func TestReached(t *testing.T) {
	rows := []struct {
		t    api.Total
		ml   int
		want bool
	}{
		{of(20, 20, 0), 1, true}, {of(20, 19, 0), 1, false}, {of(20, 19, 50), 1, true}, {of(20, 19, 49), 1, false}, {of(20, 21, 0), 1, true}, {of(20, 39, 0), 2, false}, {of(20, 40, 0), 2, true},
		{of(15, 14, 66), 1, false}, {of(15, 14, 67), 1, true}, {of(60, 59, 0), 1, false}, {of(60, 60, 0), 1, true}, {of(10, 49999, 99), 5000, false}, {of(10, 50000, 0), 5000, true},
		{api.Total{}, 0, true}, {api.Total{}, 1, false}, {api.Total{}, -1, true}, {of(20, 0, 0), -5000, true}, {of(7, 1000, 999), 1, false}, {of(7, 0, 1000), 1, true}, {of(20, -1, -1), 0, true}, {of(20, -1, -1), 1, false},
		{of(20, 0, mostVolume), 99999, true}, {of(20, 0, mostVolume), 100000, false}, {of(20, 1, mostVolume), 100000, true}, {of(20, 1, mostVolume-50), 100000, false}, {of(20, 1, mostVolume-49), 100000, true},
	}
	for _, r := range rows {
		if got := total.Reached(r.t, r.ml); got != r.want {
			t.Errorf("Reached(%+v, %d): %v", r.t, r.ml, got)
		}
	}
}

// P25.4: so many millilitres are 1000 times as many at most as Top; of a volume
// that would be more than may be, whatever is asked for is reached.
func TestReachedOfNumbersBeyond(t *testing.T) {
	for _, high := range []int{100000, 1 << 32, most, most + 1, api.Top / 2, api.Top, api.Top + 1, 1 << 61, 1 << 62, math.MaxInt / 1000, math.MaxInt/1000 + 1, math.MaxInt} {
		if total.Reached(of(20, 0, mostVolume), high) || total.Reached(of(20, 20, 0), high) {
			t.Errorf("%d is reached", high)
		}
		if !total.Reached(of(20, 1, mostVolume), high) || !total.Reached(of(20, math.MaxInt, 0), high) {
			t.Errorf("%d is not reached", high)
		}
	}
	for _, low := range []int{math.MinInt, math.MinInt + 1, math.MinInt / 1000, -1 << 61, -api.Top - 1, -api.Top, -1 << 32, -1} {
		if !total.Reached(api.Total{}, low) || !total.Reached(of(20, 20, 0), low) || !total.Reached(of(7, math.MinInt, math.MinInt), low) {
			t.Errorf("%d is not reached", low)
		}
	}
}

// P25.4: of any total it is what its volume tells.
func TestReachedOfAnyTotal(t *testing.T) {
	rnd := rand.New(rand.NewSource(254))
	for range 20000 {
		some := anyTotal(rnd)
		n, over := wantedVolume(some)
		for _, ml := range []int{0, 1, n / 1000, n/1000 + 1, rnd.Intn(5001)} {
			if got := total.Reached(some, ml); got != (over || n >= 1000*ml) {
				t.Fatalf("Reached(%+v, %d): %v", some, ml, got)
			}
		}
	}
}

// P25.5: drop by drop not a part of one is lost: as many as the set says are a
// millilitre, always.
func TestNoPartIsLost(t *testing.T) {
	for _, set := range sets {
		some := of(set, 0, 123)
		for drops := 1; drops <= 3000*set; drops++ {
			some = total.Add(some)
			volumes(t, []volume{{some, 123 + 1000*drops/set, false}})
		}
		for ml := 1; ml <= 99999; ml++ {
			volumes(t, []volume{{of(set, ml*set, 0), 1000 * ml, false}})
		}
	}
}

// P25.6: a change of the set changes no volume, and from there on each drop is
// one of the new set.
func TestChangeChangesNoVolume(t *testing.T) {
	rnd := rand.New(rand.NewSource(256))
	for range 20000 {
		some, set := anyTotal(rnd), sets[rnd.Intn(4)]
		want, _ := wantedVolume(some)
		got, ok := total.Change(some, set)
		if !ok || got != of(set, 0, want) {
			t.Fatalf("Change(%+v, %d): %+v, %v", some, set, got, ok)
		}
		volumes(t, []volume{{got, want, false}})
		full, over := want+1000, false
		if full > mostVolume {
			full, over = mostVolume, true
		}
		for range set {
			got = total.Add(got)
		}
		volumes(t, []volume{{got, full, over}})
	}
}

// R4: nothing is kept from call to call.
func TestNothingIsKept(t *testing.T) {
	some := of(20, 30, 7)
	for range 3 {
		total.Add(some)
		total.Change(some, 60)
		volumes(t, []volume{{some, 1507, false}})
		if !total.Reached(some, 1) || total.Reached(some, 2) {
			t.Errorf("asked again it is not as it was")
		}
	}
}

// The chapter's example: 15 drops of the set 15.
func TestExample(t *testing.T) {
	some := of(15, 0, 0)
	for range 15 {
		some = total.Add(some)
	}
	volumes(t, []volume{{some, 1000, false}})
}
