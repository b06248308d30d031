package motor_test

import (
	"math"
	"math/rand"
	"testing"

	"pinchcock/api"
	"pinchcock/motor"
)

// at is a motor at that position, with so many steps of homing left.
func at(pos, home int) api.Motor {
	return api.Motor{Pos: pos, Home: home}
}

// below and above are numbers that no motor has, neither as its position nor as
// its steps of homing.
var (
	below = []int{math.MinInt, math.MinInt + 1, -api.Top, -1 << 32, -321, -300, -2, -1}
	above = []int{321, 322, 512, 1 << 16, 1 << 32, 1<<62 + 1, api.Top, math.MaxInt - 1, math.MaxInt}
)

// stepped is a row: what stands there, where it is wanted, and what is to be.
type stepped struct {
	m    api.Motor
	want int
	then api.Motor
}

// steps runs the rows.
func steps(t *testing.T, rows []stepped) {
	t.Helper()
	for _, r := range rows {
		if got := motor.Step(r.m, r.want); got != r.then {
			t.Errorf("Step(%v, %d): %v, want %v", r.m, r.want, got, r.then)
		}
	}
}

// everywhere hands on each motor that may be.
func everywhere(do func(m api.Motor)) {
	for pos := 0; pos <= 300; pos++ {
		for home := 0; home <= 320; home++ {
			do(at(pos, home))
		}
	}
}

// size is how far n is from 0.
func size(n int) int {
	return max(n, -n)
}

// P12.1: nobody knows where it is.
func TestStart(t *testing.T) {
	if got := motor.Start(); got != at(300, 320) {
		t.Errorf("Start(): %v", got)
	}
}

// P12.2: while steps of homing are left, wherever it is wanted.
func TestStepsOfHoming(t *testing.T) {
	steps(t, []stepped{
		{at(300, 320), 0, at(299, 319)}, {at(300, 320), 300, at(299, 319)}, {at(100, 50), 200, at(99, 49)}, {at(100, 50), 100, at(99, 49)},
		{at(1, 20), 5, at(0, 19)}, {at(0, 20), 5, at(0, 19)}, {at(0, 20), 0, at(0, 19)}, {at(0, 2), 300, at(0, 1)},
		{at(0, 1), 300, at(0, 0)}, {at(1, 1), 300, at(0, 0)}, {at(2, 1), 2, at(0, 0)}, {at(300, 1), 300, at(0, 0)}, {at(300, 2), 300, at(299, 1)},
	})
	everywhere(func(m api.Motor) {
		for _, want := range []int{math.MinInt, 0, 150, 300, math.MaxInt} {
			got := motor.Step(m, want)
			switch {
			case m.Home == 1 && got != at(0, 0), m.Home > 1 && got != at(max(m.Pos-1, 0), m.Home-1):
				t.Fatalf("Step(%v, %d): %v", m, want, got)
			}
		}
	})
}

// P12.2: once it is home it goes one step nearer, wherever that is.
func TestStepsNearer(t *testing.T) {
	steps(t, []stepped{
		{at(0, 0), 0, at(0, 0)}, {at(0, 0), 1, at(1, 0)}, {at(0, 0), 300, at(1, 0)}, {at(1, 0), 0, at(0, 0)}, {at(100, 0), 100, at(100, 0)},
		{at(100, 0), 200, at(101, 0)}, {at(100, 0), 99, at(99, 0)}, {at(300, 0), 300, at(300, 0)}, {at(299, 0), 300, at(300, 0)}, {at(300, 0), 299, at(299, 0)},
	})
	for pos := 0; pos <= 300; pos++ {
		for want := 0; want <= 300; want++ {
			got := motor.Step(at(pos, 0), want)
			if got.Home != 0 || size(got.Pos-pos) > 1 || size(want-got.Pos) != max(size(want-pos)-1, 0) {
				t.Fatalf("Step(%d, %d): %v", pos, want, got)
			}
		}
	}
}

// P12.2: what it is wanted at counts as from 0 to 300.
func TestWantedBeyond(t *testing.T) {
	for pos := 0; pos <= 300; pos++ {
		for _, want := range below {
			steps(t, []stepped{{at(pos, 0), want, at(max(pos-1, 0), 0)}})
		}
		for _, want := range append([]int{301}, above...) {
			steps(t, []stepped{{at(pos, 0), want, at(min(pos+1, 300), 0)}})
		}
	}
}

// P12.2 to P12.4: a motor's numbers beyond count as the nearest.
func TestNumbersBeyond(t *testing.T) {
	for _, low := range below {
		same(t, at(low, 7), at(0, 7))
		same(t, at(low, 1), at(0, 1))
		same(t, at(low, 0), at(0, 0))
		same(t, at(9, low), at(9, 0))
		same(t, at(0, low), at(0, 0))
		same(t, at(low, low), at(0, 0))
		for _, high := range above {
			same(t, at(low, high), at(0, 320))
			same(t, at(high, low), at(300, 0))
		}
	}
	for _, high := range append([]int{301}, above...) {
		same(t, at(high, 0), at(300, 0))
		same(t, at(high, 1), at(300, 1))
		same(t, at(high, 20), at(300, 20))
	}
	for _, high := range above {
		same(t, at(5, high), at(5, 320))
		same(t, at(high, high), at(300, 320))
	}
}

// same checks that one motor counts as another one in all that is asked of it.
func same(t *testing.T, m, as api.Motor) {
	t.Helper()
	for _, want := range []int{-1, 0, 1, 8, 9, 10, 299, 300, 301} {
		if got, like := motor.Step(m, want), motor.Step(as, want); got != like {
			t.Errorf("Step(%v, %d): %v, and of %v %v", m, want, got, as, like)
		}
	}
	if motor.Closed(m) != motor.Closed(as) || motor.Left(m) != motor.Left(as) {
		t.Errorf("%v: %v, %d, and of %v %v, %d", m, motor.Closed(m), motor.Left(m), as, motor.Closed(as), motor.Left(as))
	}
}

// P12.3: home, and at 0.
func TestClosed(t *testing.T) {
	everywhere(func(m api.Motor) {
		if got := motor.Closed(m); got != (m.Pos == 0 && m.Home == 0) {
			t.Fatalf("Closed(%v): %v", m, got)
		}
	})
}

// P12.4: the steps of homing, or those from its position on.
func TestLeft(t *testing.T) {
	everywhere(func(m api.Motor) {
		want := m.Home
		if want == 0 {
			want = m.Pos
		}
		if got := motor.Left(m); got != want {
			t.Fatalf("Left(%v): %d, want %d", m, got, want)
		}
	})
}

// P12.5: it is closed behind so many ticks, not earlier, and stays so: by each
// single tick, which leaves one less, and none of it closes it earlier.
func TestClosedWhenLeftSays(t *testing.T) {
	everywhere(func(m api.Motor) {
		left, then := motor.Left(m), motor.Step(m, 0)
		if motor.Closed(m) != (left == 0) {
			t.Fatalf("%v: %d ticks, %v", m, left, motor.Closed(m))
		}
		if got := motor.Left(then); got != max(left-1, 0) {
			t.Fatalf("%v: %d ticks, then %v: %d", m, left, then, got)
		}
	})
}

// P12.5: all the way, from wherever, also from numbers beyond.
func TestAllTheWayToClosed(t *testing.T) {
	starts := []api.Motor{motor.Start(), at(0, 0), at(1, 0), at(0, 1), at(300, 0), at(300, 1), at(301, 0), at(5, 321), at(-1, -1), at(math.MaxInt, math.MinInt)}
	rnd := rand.New(rand.NewSource(125))
	for range 300 {
		starts = append(starts, at(rnd.Intn(341)-20, rnd.Intn(361)-20))
	}
	for _, start := range starts {
		m := start
		for left := motor.Left(start); left > 0; left-- {
			if motor.Closed(m) {
				t.Fatalf("%v: closed %d ticks early", start, left)
			}
			m = motor.Step(m, -rnd.Intn(2))
		}
		for range 5 {
			if !motor.Closed(m) || motor.Left(m) != 0 {
				t.Fatalf("%v: not closed at %v", start, m)
			}
			m = motor.Step(m, 0)
		}
	}
}

// P12.6: never more than one step a tick, but to its home, which is the last
// step of homing.
func TestOneStepATick(t *testing.T) {
	everywhere(func(m api.Motor) {
		for _, want := range []int{math.MinInt, 0, m.Pos, 300, math.MaxInt} {
			got := motor.Step(m, want)
			if size(got.Pos-m.Pos) > 1 && (m.Home != 1 || got != at(0, 0)) {
				t.Fatalf("Step(%v, %d): %v", m, want, got)
			}
			if got.Home > max(m.Home-1, 0) {
				t.Fatalf("Step(%v, %d): %v", m, want, got)
			}
		}
	})
}

// P12.6: once it is home it gets wherever it is to go, and stays.
func TestGetsThere(t *testing.T) {
	for from := 0; from <= 300; from += 7 {
		for to := 0; to <= 300; to += 5 {
			m := at(from, 0)
			for range size(to - from) {
				m = motor.Step(m, to)
			}
			for range 3 {
				if m != at(to, 0) {
					t.Fatalf("from %d to %d: %v", from, to, m)
				}
				m = motor.Step(m, to)
			}
		}
	}
}

// R4: nothing is kept from call to call.
func TestNothingIsKept(t *testing.T) {
	motor.Step(at(7, 0), 300)
	motor.Step(motor.Start(), 0)
	if got := motor.Start(); got != at(300, 320) {
		t.Errorf("Start(): %v", got)
	}
	steps(t, []stepped{{at(7, 0), 300, at(8, 0)}, {at(7, 0), 300, at(8, 0)}})
}

// The chapter's example: from the start 320 ticks close it, and 319 don't.
func TestExample(t *testing.T) {
	m := motor.Start()
	for range 319 {
		m = motor.Step(m, 300)
	}
	if motor.Closed(m) {
		t.Errorf("closed at %v", m)
	}
	if m = motor.Step(m, 300); !motor.Closed(m) {
		t.Errorf("not closed at %v", m)
	}
}
