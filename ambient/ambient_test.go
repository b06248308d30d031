package ambient_test

import (
	"math"
	"math/rand"
	"testing"

	"pinchcock/ambient"
	"pinchcock/api"
)

// brightest is the greatest base.
const brightest = 64 * 4095

// below and above are numbers that neither a light nor a base has, also such as
// would be one without the bits above it.
var (
	below = []int{math.MinInt, math.MinInt + 1, -api.Top, -1<<32 + 100, -1 << 32, -brightest, -4095, -64, -2, -1}
	above = []int{brightest + 1, brightest + 2, brightest + 64, 1 << 20, 1 << 32, 1<<32 + 100, 1<<62 + 100, api.Top, math.MaxInt - 1, math.MaxInt}
)

// step is a row of Step.
type step struct {
	base, adc int
	shaded    bool
	want      int
}

// steps runs the rows.
func steps(t *testing.T, rows []step) {
	t.Helper()
	for _, r := range rows {
		if got := ambient.Step(r.base, r.adc, r.shaded); got != r.want {
			t.Fatalf("Step(%d, %d, %v): %d, want %d", r.base, r.adc, r.shaded, got, r.want)
		}
	}
}

// nearest is the number from 0 to most that is nearest to n.
func nearest(n, most int) int {
	return min(max(n, 0), most)
}

// stepped is the base behind a tick that is not shaded, by its definition: n is
// the greatest whole number that, times 64, is not above what is missing.
func stepped(base, adc int) int {
	was := nearest(base, brightest)
	missing := 64*nearest(adc, 4095) - was
	n := missing / 64
	for n*64 > missing {
		n--
	}
	return was + n
}

// bases are bases at all edges, and some between them.
func bases() []int {
	rnd := rand.New(rand.NewSource(16))
	all := []int{}
	for _, edge := range []int{0, 64, 128, 6400, 6464, 64 * 3000, brightest - 64, brightest} {
		for off := -66; off <= 66; off++ {
			if edge+off >= 0 && edge+off <= brightest {
				all = append(all, edge+off)
			}
		}
	}
	for range 300 {
		all = append(all, rnd.Intn(brightest+1))
	}
	return all
}

// lights are lights at all edges, and some between them.
func lights() []int {
	rnd := rand.New(rand.NewSource(17))
	all := []int{0, 1, 2, 3, 63, 64, 65, 99, 100, 101, 164, 2999, 3000, 3001, 4031, 4032, 4093, 4094, 4095}
	for range 30 {
		all = append(all, rnd.Intn(4096))
	}
	return all
}

// P16.1: 64 times the light, which counts as from 0 to 4095.
func TestStart(t *testing.T) {
	for adc := range 4096 {
		if got := ambient.Start(adc); got != 64*adc {
			t.Fatalf("Start(%d): %d", adc, got)
		}
	}
	for _, adc := range below {
		if got := ambient.Start(adc); got != 0 {
			t.Errorf("Start(%d): %d", adc, got)
		}
	}
	for _, adc := range append([]int{4096, 4097, 5000, 1 << 16}, above...) {
		if got := ambient.Start(adc); got != brightest {
			t.Errorf("Start(%d): %d", adc, got)
		}
	}
}

// P16.2: a 64th of what is missing, rounded down, also where too much is there.
func TestStep(t *testing.T) {
	steps(t, []step{
		{6400, 164, false, 6464}, {6400, 100, false, 6400}, {6400, 101, false, 6401}, {6400, 99, false, 6399}, {6400, 36, false, 6336},
		{6401, 100, false, 6400}, {6402, 100, false, 6401}, {6463, 100, false, 6462}, {6464, 100, false, 6463}, {6465, 100, false, 6463}, {6528, 100, false, 6526}, {6529, 100, false, 6526},
		{6399, 100, false, 6399}, {6337, 100, false, 6337}, {6336, 100, false, 6337}, {6335, 100, false, 6336}, {6273, 100, false, 6274}, {6272, 100, false, 6274},
		{0, 0, false, 0}, {0, 1, false, 1}, {1, 1, false, 1}, {1, 0, false, 0}, {63, 0, false, 62}, {64, 0, false, 63}, {65, 0, false, 63},
		{0, 4095, false, 4095}, {brightest, 0, false, brightest - 4095}, {brightest, 4095, false, brightest}, {brightest - 1, 4095, false, brightest - 1},
		{brightest - 64, 4095, false, brightest - 63}, {brightest, 4094, false, brightest - 1},
	})
	for _, base := range bases() {
		for _, adc := range lights() {
			steps(t, []step{{base, adc, false, stepped(base, adc)}})
		}
	}
}

// P16.2: as long as it is shaded the base stays, whatever the light.
func TestStepOfWhatIsShaded(t *testing.T) {
	for _, base := range bases() {
		for _, adc := range append(append(lights(), below...), above...) {
			steps(t, []step{{base, adc, true, base}})
		}
	}
}

// P16.2: a light and a base beyond count as the nearest, shaded or not.
func TestStepOfNumbersBeyond(t *testing.T) {
	for _, adc := range lights() {
		for _, low := range below {
			steps(t, []step{{low, adc, false, stepped(0, adc)}, {low, adc, true, 0}})
		}
		for _, high := range above {
			steps(t, []step{{high, adc, false, stepped(brightest, adc)}, {high, adc, true, brightest}})
		}
	}
	for _, base := range bases() {
		for _, low := range below {
			steps(t, []step{{base, low, false, stepped(base, 0)}})
		}
		for _, high := range append([]int{4096, 4097, 5000}, above...) {
			steps(t, []step{{base, high, false, stepped(base, 4095)}})
		}
	}
	for _, low := range below {
		for _, high := range above {
			steps(t, []step{{low, high, false, 4095}, {high, low, false, brightest - 4095}, {low, low, false, 0}, {high, high, false, brightest}})
		}
	}
}

// P16.3: a 64th of the base, rounded down.
func TestLevel(t *testing.T) {
	for base := range brightest + 1 {
		if got := ambient.Level(base); 64*got > base || 64*(got+1) <= base {
			t.Fatalf("Level(%d): %d", base, got)
		}
	}
	for _, base := range below {
		if got := ambient.Level(base); got != 0 {
			t.Errorf("Level(%d): %d", base, got)
		}
	}
	for _, base := range above {
		if got := ambient.Level(base); got != 4095 {
			t.Errorf("Level(%d): %d", base, got)
		}
	}
	for adc := range 4096 {
		if got := ambient.Level(ambient.Start(adc)); got != adc {
			t.Fatalf("%d has the level %d", adc, got)
		}
	}
}

// P16.4: the base goes towards the light, and never beyond it.
func TestTowardsTheLight(t *testing.T) {
	for _, base := range bases() {
		for _, adc := range lights() {
			got, goal := ambient.Step(base, adc, false), 64*adc
			switch {
			case base > goal && (got >= base || got < goal), base <= goal-64 && (got <= base || got > goal), base > goal-64 && base <= goal && got != base:
				t.Fatalf("from %d to %d: %d", base, goal, got)
			}
		}
	}
}

// P16.5: behind 900 ticks of one light the level is that light, or 1 less, and
// stays so.
func TestLevelOfOneLight(t *testing.T) {
	rnd := rand.New(rand.NewSource(165))
	starts := []int{math.MinInt, -1, 0, 1, 63, 64, 6400, brightest - 64, brightest - 1, brightest, brightest + 1, math.MaxInt}
	for range 10 {
		starts = append(starts, rnd.Intn(brightest+1))
	}
	for _, start := range starts {
		for _, adc := range lights() {
			base := start
			for tick := 1; tick <= 1100; tick++ {
				base = ambient.Step(base, adc, false)
				if level := ambient.Level(base); tick >= 900 && level != adc && level != adc-1 {
					t.Fatalf("from %d on, %d ticks of %d: %d, %d", start, tick, adc, base, level)
				}
			}
		}
	}
}

// R4: nothing is kept from call to call.
func TestNothingIsKept(t *testing.T) {
	for range 3 {
		steps(t, []step{{6400, 164, false, 6464}, {6400, 164, true, 6400}, {0, 4095, false, 4095}})
		if got := ambient.Start(100); got != 6400 {
			t.Errorf("Start(100): %d", got)
		}
	}
}

// The chapter's example.
func TestExample(t *testing.T) {
	base := ambient.Step(ambient.Start(100), 164, false)
	if level := ambient.Level(base); base != 6464 || level != 101 {
		t.Errorf("%d, %d", base, level)
	}
}
