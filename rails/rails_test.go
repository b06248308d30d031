package rails_test

import (
	"math"
	"math/rand"
	"testing"

	"pinchcock/api"
	"pinchcock/rails"
)

// step is a row of Step.
type step struct {
	run, adc, bad int
	want          int
}

// steps runs the rows.
func steps(t *testing.T, rows []step) {
	t.Helper()
	for _, r := range rows {
		if got := rails.Step(r.run, r.adc, r.bad); got != r.want {
			t.Fatalf("Step(%d, %d, %d): %d, want %d", r.run, r.adc, r.bad, got, r.want)
		}
	}
}

// faults runs rows of Fault: of each run and each mark.
func faults(t *testing.T, runs, marks []int, want bool) {
	t.Helper()
	for _, run := range runs {
		for _, bad := range marks {
			if got := rails.Fault(run, bad); got != want {
				t.Errorf("Fault(%d, %d): %v", run, bad, got)
			}
		}
	}
}

// marks are all marks that a record may have.
func marks() []int {
	all := make([]int, 32)
	for bad := range all {
		all[bad] = bad
	}
	return all
}

// P21.1: one more at either end, none between both.
func TestStep(t *testing.T) {
	steps(t, []step{
		{0, 0, 0, 1}, {0, 4095, 0, 1}, {49, 0, 0, 50}, {49, 4095, 0, 50}, {50, 0, 0, 51}, {7, 1, 0, 0}, {7, 4094, 0, 0}, {7, 3000, 0, 0}, {0, 3000, 0, 0}, {49, 2, 0, 0},
	})
	for adc := range 4096 {
		want := 0
		if adc == 0 || adc == 4095 {
			want = 8
		}
		steps(t, []step{{7, adc, 0, want}})
	}
}

// P21.1: the mark of the light counts as its end, whatever the light, and
// whatever else is marked; other marks do not.
func TestStepOfMarks(t *testing.T) {
	for _, bad := range marks() {
		want := 0
		if bad%2 == 1 {
			want = 8
		}
		for _, adc := range []int{1, 2, 100, 2048, 3000, 4094} {
			steps(t, []step{{7, adc, bad, want}})
		}
		for _, adc := range []int{0, 4095} {
			steps(t, []step{{7, adc, bad, 8}})
		}
	}
}

// P21.1: a light beyond its ends is not between them.
func TestLightsBeyond(t *testing.T) {
	for _, adc := range []int{math.MinInt, math.MinInt + 1, -api.Top, -1<<32 + 3000, -3000, -2, -1, 4096, 4097, 1 << 16, 1<<32 + 3000, api.Top, math.MaxInt} {
		steps(t, []step{{7, adc, 0, 8}, {7, adc, api.BadAdc, 8}, {0, adc, api.BadKey, 1}})
	}
}

// P21.1: a run counts as from 0 to MaxTick.
func TestRunsBeyond(t *testing.T) {
	for _, adc := range []int{0, 4095} {
		for _, low := range []int{math.MinInt, math.MinInt + 1, -api.Top, -1 << 32, -50, -2, -1} {
			steps(t, []step{{low, adc, 0, 1}, {low, 3000, api.BadAdc, 1}, {low, 3000, 0, 0}})
		}
		for _, high := range []int{api.MaxTick, api.MaxTick + 1, api.MaxTick + 2, api.Top, math.MaxInt - 1, math.MaxInt} {
			steps(t, []step{{high, adc, 0, api.MaxTick + 1}, {high, 3000, api.BadAdc, api.MaxTick + 1}, {high, 3000, 0, 0}})
		}
		steps(t, []step{{api.MaxTick - 1, adc, 0, api.MaxTick}, {1 << 32, adc, 0, 1<<32 + 1}})
	}
}

// P21.2: fifty at least; fewer are not, without a mark.
func TestFaultOfRuns(t *testing.T) {
	for run := -100; run < 50; run++ {
		faults(t, []int{run}, []int{0}, false)
	}
	for run := 50; run < 1000; run++ {
		faults(t, []int{run}, []int{0}, true)
	}
	faults(t, []int{math.MinInt, -api.Top, -api.MaxTick, -1 << 32, -50}, []int{0}, false)
	faults(t, []int{1 << 32, 256, api.MaxTick, api.MaxTick + 1, api.Top, math.MaxInt}, []int{0}, true)
}

// P21.2: any mark is a fault, whatever the run; also one that there is not.
func TestFaultOfMarks(t *testing.T) {
	runs := []int{math.MinInt, -1, 0, 1, 49, 50, 51, math.MaxInt}
	faults(t, runs, marks()[1:], true)
	faults(t, runs, []int{math.MinInt, -api.Top, -32, -2, -1, 32, 64, 256, 1 << 32, 1 << 62, api.Top, math.MaxInt}, true)
}

// P21.3: a record that was wrong is a fault at once, and not longer than that.
func TestWrongIsAFaultAtOnce(t *testing.T) {
	for _, bad := range marks()[1:] {
		run := rails.Step(0, 3000, bad)
		if !rails.Fault(run, bad) {
			t.Errorf("%d is no fault", bad)
		}
		if run = rails.Step(run, 3000, 0); rails.Fault(run, 0) {
			t.Errorf("%d is a fault in the tick behind it", bad)
		}
	}
}

// P21.3: light at its end is a fault in the fiftieth tick, and not sooner, also
// if it goes from one end to the other one; and behind it as long as it stays.
func TestFaultInTheFiftiethTick(t *testing.T) {
	rnd := rand.New(rand.NewSource(213))
	for _, ahead := range []int{0, 1, 10, 49} {
		run := 0
		for range ahead {
			run = rails.Step(run, 0, 0)
		}
		run = rails.Step(run, 1+rnd.Intn(4094), 0)
		for tick := 1; tick <= 120; tick++ {
			run = rails.Step(run, 4095*rnd.Intn(2), 0)
			if got := rails.Fault(run, 0); got != (tick >= 50) {
				t.Fatalf("%d ticks: %v", tick, got)
			}
		}
		if run = rails.Step(run, 4094, 0); rails.Fault(run, 0) {
			t.Errorf("a fault in a tick of light")
		}
	}
}

// R4: nothing is kept from call to call.
func TestNothingIsKept(t *testing.T) {
	for range 60 {
		steps(t, []step{{48, 0, 0, 49}, {0, 4095, 0, 1}})
		faults(t, []int{49}, []int{0}, false)
	}
}

// The chapter's example: no light for 50 ticks.
func TestExample(t *testing.T) {
	run := 0
	for range 50 {
		run = rails.Step(run, 0, 0)
	}
	if !rails.Fault(run, 0) {
		t.Errorf("no fault at %d", run)
	}
}
