package alarm_test

import (
	"math"
	"math/rand"
	"testing"

	"pinchcock/alarm"
	"pinchcock/api"
)

// The levels.
const (
	none = iota
	low
	medium
	high
)

// long is the greatest count of ticks.
const long = 1 << 40

// of is an alarm.
func of(age, silent int) api.Alarm {
	return api.Alarm{Age: age, Silent: silent}
}

// step runs Step, and holds it against what is wanted.
func step(t *testing.T, a api.Alarm, level int, fresh, silence bool, want api.Alarm, shown, class int) api.Alarm {
	t.Helper()
	got, gotShown, gotClass := alarm.Step(a, level, fresh, silence)
	if got != want || gotShown != shown || gotClass != class {
		t.Fatalf("Step(%+v, %d, %v, %v): %+v, %d, %d, want %+v, %d, %d", a, level, fresh, silence, got, gotShown, gotClass, want, shown, class)
	}
	return got
}

// P41.1: what is of the middle level for 3000 ticks, and nothing else, is of the
// highest one.
func TestShown(t *testing.T) {
	rows := []struct{ age, level, want int }{
		{0, none, none}, {0, low, low}, {0, medium, medium}, {0, high, high}, {2999, low, low}, {2999, medium, medium}, {2999, high, high}, {3000, none, none}, {3000, low, low}, {3000, medium, high}, {3000, high, high}, {3001, medium, high}, {long, medium, high}, {math.MaxInt, medium, high}, {math.MaxInt, low, low}, {math.MaxInt, none, none}, {-1, medium, medium}, {math.MinInt, medium, medium}, {-3000, medium, medium},
		{3000, 4, 4}, {3000, -1, -1}, {0, 4, 4}, {0, -2, -2}, {3000, math.MinInt, math.MinInt}, {3000, math.MaxInt, math.MaxInt}, {3000, 1<<32 + 2, 1<<32 + 2},
	}
	for _, r := range rows {
		for _, silent := range []int{math.MinInt, 0, 1, 6000, math.MaxInt} {
			if got := alarm.Shown(of(r.age, silent), r.level); got != r.want {
				t.Errorf("Shown(%+v, %d): %d, want %d", of(r.age, silent), r.level, got, r.want)
			}
		}
	}
}

// P41.2: without a level nothing is left.
func TestStepWithoutALevel(t *testing.T) {
	for _, a := range []api.Alarm{{}, of(1, 0), of(0, 1), of(2999, 6000), of(3000, 3000), of(-1, -1), of(math.MaxInt, math.MaxInt), of(math.MinInt, math.MinInt)} {
		for k := range 4 {
			for _, level := range []int{none, -1, -2, math.MinInt} {
				step(t, a, level, k&1 == 1, k&2 == 2, api.Alarm{}, none, none)
			}
		}
	}
}

// P41.2: the age, for how long it is silent, what is shown, and the class.
func TestStep(t *testing.T) {
	rows := []struct {
		a              api.Alarm
		level          int
		fresh, silence bool
		want           api.Alarm
		shown, class   int
	}{
		{of(0, 0), low, false, false, of(1, 0), low, low}, {of(0, 0), medium, false, false, of(1, 0), medium, medium}, {of(0, 0), high, false, false, of(1, 0), high, high}, {of(7, 0), high, false, false, of(8, 0), high, high},
		{of(0, 0), low, false, true, of(1, 6000), low, none}, {of(0, 0), medium, false, true, of(1, 6000), medium, none}, {of(0, 0), high, false, true, of(1, 6000), high, low},
		{of(7, 9), low, false, false, of(8, 8), low, none}, {of(7, 9), medium, false, false, of(8, 8), medium, none}, {of(7, 9), high, false, false, of(8, 8), high, low}, {of(7, 2), high, false, false, of(8, 1), high, low}, {of(7, 1), high, false, false, of(8, 0), high, high}, {of(7, 1), low, false, false, of(8, 0), low, low},
		{of(7, 9), high, true, false, of(8, 0), high, high}, {of(7, 9), low, true, false, of(8, 0), low, low}, {of(7, 0), medium, true, false, of(8, 0), medium, medium}, {of(7, 9), high, false, true, of(8, 6000), high, low},
		{of(2998, 0), medium, false, false, of(2999, 0), medium, medium}, {of(2999, 0), medium, false, false, of(3000, 0), high, high}, {of(2999, 9), medium, false, false, of(3000, 8), high, low}, {of(2998, 9), medium, false, false, of(2999, 8), medium, none}, {of(2999, 0), low, false, false, of(3000, 0), low, low}, {of(5000, 0), low, false, true, of(5001, 6000), low, none}, {of(5000, 0), medium, false, true, of(5001, 6000), high, low},
	}
	for _, r := range rows {
		step(t, r.a, r.level, r.fresh, r.silence, r.want, r.shown, r.class)
	}
}

// P41.2: what is fresh is heard, though silence is asked for in that tick.
func TestStepOfWhatIsFreshAndSilenced(t *testing.T) {
	for level := low; level <= high; level++ {
		for _, silent := range []int{0, 1, 9, 6000} {
			step(t, of(7, silent), level, true, true, of(8, 0), level, level)
		}
	}
}

// P41.2: numbers beyond count as the nearest that may be.
func TestStepOfNumbersBeyond(t *testing.T) {
	for _, l := range []int{math.MinInt, -api.Top, -3000, -1, 0} {
		step(t, of(l, l), high, false, false, of(1, 0), high, high)
		step(t, of(5, l), low, false, false, of(6, 0), low, low)
		step(t, of(l, 5), medium, false, false, of(1, 4), medium, none)
	}
	for _, h := range []int{long, long + 1, api.Top, math.MaxInt - 1, math.MaxInt} {
		step(t, of(h, h), low, false, false, of(long+1, 5999), low, none)
		step(t, of(h, 0), medium, false, false, of(long+1, 0), high, high)
		step(t, of(5, h), high, false, false, of(6, 5999), high, low)
		step(t, of(5, 0), h, false, false, of(6, 0), high, high)
		step(t, of(3000, 9), h, false, false, of(3001, 8), high, low)
	}
	step(t, of(long-1, 6001), high, false, false, of(long, 5999), high, low)
	step(t, of(5, 6000), high, false, false, of(6, 5999), high, low)
	step(t, of(5, 5999), high, false, false, of(6, 5998), high, low)
	step(t, of(5, 0), 4, false, false, of(6, 0), high, high)
}

// tick is what is told of one.
type tick struct {
	level          int
	fresh, silence bool
}

// wanted is what is shown, and the class, by all ticks up to the last one.
func wanted(all []tick) (int, int) {
	now := all[len(all)-1].level
	if now == none {
		return none, none
	}
	age, silent, open := 0, false, true
	for k := len(all) - 1; k >= 0 && all[k].level != none; k-- {
		age++
		if open && all[k].fresh {
			open = false
		}
		if open && all[k].silence {
			open, silent = false, age <= 6000
		}
	}
	shown := now
	if now == medium && age >= 3000 {
		shown = high
	}
	switch {
	case !silent:
		return shown, shown
	case shown == high:
		return shown, low
	}
	return shown, none
}

// P41.3 and P41.4: through ticks of any kind, each against all that came ahead.
func TestThroughTicks(t *testing.T) {
	rnd := rand.New(rand.NewSource(413))
	for range 6 {
		a, all, level := api.Alarm{}, []tick{}, medium
		for range 9000 {
			if rnd.Intn(1500) == 0 {
				level = rnd.Intn(4)
			}
			now := tick{level, rnd.Intn(3000) == 0, rnd.Intn(3000) == 0}
			all = append(all, now)
			var shown, class int
			a, shown, class = alarm.Step(a, now.level, now.fresh, now.silence)
			if len(all)%17 > 1 && !now.fresh && !now.silence {
				continue
			}
			if s, c := wanted(all); s != shown || c != class {
				t.Fatalf("tick %d: %d, %d, want %d, %d", len(all), shown, class, s, c)
			}
		}
	}
}

// P41.3: silence changes nothing of what is shown, and lasts for 6000 ticks.
func TestSilence(t *testing.T) {
	for level := low; level <= high; level++ {
		loud, quiet := api.Alarm{}, api.Alarm{}
		for k := range 7000 {
			var shown, seen, class int
			loud, shown, _ = alarm.Step(loud, level, false, false)
			quiet, seen, class = alarm.Step(quiet, level, false, k == 500)
			if shown != seen || (class == seen) != (k < 500 || k >= 6500) {
				t.Fatalf("level %d, tick %d: %d, %d, %d", level, k, shown, seen, class)
			}
		}
	}
}

// P41.4: of the middle level for 3000 ticks it is of the highest one, till it is
// over; and that is never quite silent.
func TestItGetsUrgent(t *testing.T) {
	for _, silence := range []bool{false, true} {
		a := api.Alarm{}
		for k := 1; k <= 9000; k++ {
			var shown, class int
			a, shown, class = alarm.Step(a, medium, false, silence)
			if (shown == high) != (k >= 3000) || shown == high && class == none {
				t.Fatalf("tick %d: %d, %d", k, shown, class)
			}
		}
		a = step(t, a, none, false, false, api.Alarm{}, none, none)
		step(t, a, medium, false, false, of(1, 0), medium, medium)
	}
}

// R4: nothing is kept from call to call.
func TestNothingIsKept(t *testing.T) {
	for range 3 {
		step(t, of(0, 0), high, false, true, of(1, 6000), high, low)
		step(t, of(0, 0), high, false, false, of(1, 0), high, high)
	}
}

// The chapter's example: of LevelHigh, silent.
func TestExample(t *testing.T) {
	if _, _, class := alarm.Step(of(0, 0), api.LevelHigh, false, true); class != api.LevelLow {
		t.Errorf("the class is %d", class)
	}
}
