package beam_test

import (
	"math"
	"math/rand"
	"slices"
	"testing"

	"pinchcock/api"
	"pinchcock/beam"
)

// ticks is so many ticks of the one, then of the other: clear ones, then shaded
// ones, and so on.
func ticks(counts ...int) []bool {
	all := []bool{}
	for i, n := range counts {
		all = append(all, slices.Repeat([]bool{i%2 == 1}, n)...)
	}
	return all
}

// twelve is whether some twelve ticks side by side are all shaded, held against
// each twelve of them.
func twelve(l []bool) bool {
	for i := 0; i+12 <= len(l); i++ {
		if !slices.Contains(l[i:i+12], false) {
			return true
		}
	}
	return false
}

// step is a row of Step.
type step struct {
	run    int
	shaded bool
	want   int
}

// steps runs the rows.
func steps(t *testing.T, rows []step) {
	t.Helper()
	for _, r := range rows {
		if got := beam.Step(r.run, r.shaded); got != r.want {
			t.Errorf("Step(%d, %v): %d, want %d", r.run, r.shaded, got, r.want)
		}
	}
}

// P20.1: one more, if it is shaded; none, if it is not.
func TestStep(t *testing.T) {
	for run := range 1000 {
		steps(t, []step{{run, true, run + 1}, {run, false, 0}})
	}
	steps(t, []step{
		{1 << 32, true, 1<<32 + 1}, {1 << 32, false, 0},
		{api.MaxTick - 1, true, api.MaxTick}, {api.MaxTick - 1, false, 0}, {api.MaxTick, true, api.MaxTick + 1}, {api.MaxTick, false, 0},
	})
}

// P20.1: a run counts as from 0 to MaxTick.
func TestRunsBeyond(t *testing.T) {
	for _, low := range []int{math.MinInt, math.MinInt + 1, -api.Top, -1 << 32, -12, -2, -1} {
		steps(t, []step{{low, true, 1}, {low, false, 0}})
	}
	for _, high := range []int{api.MaxTick + 1, api.MaxTick + 2, api.Top, api.Top + 1, math.MaxInt - 1, math.MaxInt} {
		steps(t, []step{{high, true, api.MaxTick + 1}, {high, false, 0}})
	}
}

// P20.2: twelve are a stream, eleven are not, wherever they stand, and however
// many stand apart.
func TestStream(t *testing.T) {
	rows := []struct {
		l    []bool
		want bool
	}{
		{nil, false}, {[]bool{}, false}, {ticks(1), false}, {ticks(50), false}, {ticks(0, 1), false},
		{ticks(0, 11), false}, {ticks(0, 12), true}, {ticks(0, 13), true}, {ticks(0, 100), true}, {ticks(3, 11), false}, {ticks(3, 12), true},
		{ticks(0, 11, 1), false}, {ticks(0, 12, 1), true}, {ticks(3, 11, 3), false}, {ticks(3, 12, 3), true},
		{ticks(0, 11, 1, 11), false}, {ticks(0, 11, 1, 12), true}, {ticks(0, 12, 1, 11), true}, {ticks(0, 6, 1, 6), false}, {ticks(0, 6, 1, 6, 1, 6), false},
		{ticks(1, 11, 1, 11, 1, 11, 1), false}, {ticks(1, 1, 1, 2, 1, 12, 40), true},
	}
	for _, r := range rows {
		if got := beam.Stream(r.l); got != r.want {
			t.Errorf("Stream(%v): %v", r.l, got)
		}
	}
}

// P20.3: so many shaded ticks, wherever they stand among clear ones, are a
// stream just from twelve on.
func TestStreamOfEverySize(t *testing.T) {
	for ahead := range 30 {
		for many := range 40 {
			for _, behind := range []int{0, 1, 20} {
				if got := beam.Stream(ticks(ahead, many, behind)); got != (many >= 12) {
					t.Fatalf("%d clear, %d shaded, %d clear: %v", ahead, many, behind, got)
				}
			}
		}
	}
}

// P20.3: the run is how many ticks, up to the last one, are shaded side by side.
func TestRunIsOfTicksSideBySide(t *testing.T) {
	rnd := rand.New(rand.NewSource(203))
	l, run := []bool{}, 0
	for range 5000 {
		shaded := rnd.Intn(12) > 0
		l, run = append(l, shaded), beam.Step(run, shaded)
		want := 0
		for want < len(l) && l[len(l)-1-want] {
			want++
		}
		if run != want {
			t.Fatalf("%d in tick %d, want %d", run, len(l), want)
		}
	}
}

// P20.3: it is a stream just if it is one of some twelve of them side by side:
// held against each twelve, and against the runs tick by tick.
func TestStreamIsOfTwelve(t *testing.T) {
	rnd := rand.New(rand.NewSource(204))
	streams := 0
	for range 5000 {
		l, run, most := make([]bool, rnd.Intn(60)), 0, 0
		rarity := 2 + rnd.Intn(20)
		for i := range l {
			l[i] = rnd.Intn(rarity) > 0
			run = beam.Step(run, l[i])
			most = max(most, run)
		}
		got := beam.Stream(l)
		if got != twelve(l) || got != (most >= 12) {
			t.Fatalf("%v: %v", l, got)
		}
		if got {
			streams++
		}
	}
	if streams < 500 || streams > 4500 {
		t.Errorf("%d streams of 5000 are too few, or too many, to tell", streams)
	}
}

// R3: what is handed in stays, and the room behind its end is not looked at.
func TestTicksStay(t *testing.T) {
	all := ticks(2, 30)
	for n := range len(all) {
		if got := beam.Stream(all[:n]); got != (n >= 14) {
			t.Errorf("of %d ticks: %v", n, got)
		}
	}
	if !slices.Equal(all, ticks(2, 30)) {
		t.Errorf("changed: %v", all)
	}
}

// R4: nothing is kept from call to call.
func TestNothingIsKept(t *testing.T) {
	for range 5 {
		if beam.Stream(ticks(0, 11)) || !beam.Stream(ticks(0, 12)) {
			t.Errorf("asked again it is not as it was")
		}
		steps(t, []step{{0, true, 1}, {0, true, 1}})
	}
}

// The chapter's example: shaded thrice.
func TestExample(t *testing.T) {
	run := 0
	for range 3 {
		run = beam.Step(run, true)
	}
	if run != 3 {
		t.Errorf("the run is %d", run)
	}
}
