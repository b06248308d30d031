package follow_test

import (
	"math"
	"math/rand"
	"testing"

	"pinchcock/api"
	"pinchcock/follow"
	"pinchcock/motor"
)

// at is a motor that is home, at that position.
func at(pos int) api.Motor {
	return api.Motor{Pos: pos}
}

// homing is a motor at that position, with so many steps of homing left.
func homing(pos, home int) api.Motor {
	return api.Motor{Pos: pos, Home: home}
}

// counted is n as sat.Sub has it.
func counted(n int) int {
	return min(max(n, -api.Top), api.Top)
}

// before is a count of ticks as it counts.
func before(run int) int {
	return min(max(run, 0), api.MaxTick)
}

// wanted is what is to be told of a motor that is home.
func wanted(run, pos, encoder int) int {
	if slip := counted(pos) - counted(encoder); slip >= -6 && slip <= 6 {
		return 0
	}
	return before(run) + 1
}

// numbers are those at each limit, those beside it, and beyond it.
func numbers() []int {
	l := []int{math.MinInt, math.MinInt + 1, math.MinInt + 7, math.MaxInt - 7, math.MaxInt - 1, math.MaxInt, -1 << 62, 1 << 62, 1 << 32, 1<<32 + 100}
	for _, edge := range []int{-api.Top, 0, 100, 300, api.MaxTick, api.Top} {
		for off := -8; off <= 8; off++ {
			l = append(l, edge+off)
		}
	}
	return l
}

// row is what Apart is given, and what is wanted.
type row struct {
	run     int
	m       api.Motor
	encoder int
	want    int
}

// runs runs the rows.
func runs(t *testing.T, rows []row) {
	t.Helper()
	for _, r := range rows {
		if got := follow.Apart(r.run, r.m, r.encoder); got != r.want {
			t.Fatalf("Apart(%d, %v, %d): %d, want %d", r.run, r.m, r.encoder, got, r.want)
		}
	}
}

// P13.1: six steps apart are not apart, seven are.
func TestApart(t *testing.T) {
	runs(t, []row{
		{5, at(100), 100, 0}, {5, at(100), 94, 0}, {5, at(100), 93, 6}, {5, at(100), 106, 0}, {5, at(100), 107, 6}, {5, at(100), 90, 6},
		{0, at(0), 0, 0}, {0, at(0), 6, 0}, {0, at(0), 7, 1}, {0, at(0), -6, 0}, {0, at(0), -7, 1}, {0, at(300), 294, 0}, {0, at(300), 293, 1},
		{39, at(100), 0, 40}, {40, at(100), 0, 41}, {39, at(100), 100, 0}, {api.MaxTick, at(300), 299, 0},
		{-1, at(100), 90, 1}, {-40, at(100), 90, 1}, {math.MinInt, at(100), 90, 1},
		{api.MaxTick - 1, at(100), 90, api.MaxTick}, {api.MaxTick, at(100), 90, api.MaxTick + 1}, {api.MaxTick + 1, at(100), 90, api.MaxTick + 1},
		{api.MaxTick + 2, at(100), 90, api.MaxTick + 1}, {api.Top, at(100), 90, api.MaxTick + 1}, {math.MaxInt, at(100), 90, api.MaxTick + 1},
	})
}

// P13.1: the position counts as it is, also beyond 300, and stops at Top alone.
func TestApartBeyond(t *testing.T) {
	runs(t, []row{
		{3, at(400), 400, 0}, {3, at(400), 394, 0}, {3, at(400), 300, 4}, {3, at(301), 307, 0}, {3, at(307), 300, 4}, {3, at(-10), 0, 4}, {3, at(-10), -10, 0},
		{3, at(-10), -4, 0}, {3, at(-10), -3, 4}, {3, at(api.Top), api.Top - 6, 0}, {3, at(api.Top), api.Top - 7, 4}, {3, at(api.Top + 1), api.Top - 6, 0},
		{3, at(math.MaxInt), api.Top, 0}, {3, at(math.MaxInt), api.Top - 7, 4}, {3, at(math.MaxInt), math.MinInt, 4}, {3, at(math.MinInt), math.MaxInt, 4},
		{3, at(math.MinInt), -api.Top + 6, 0}, {3, at(math.MinInt), -api.Top + 7, 4}, {3, at(math.MinInt), 0, 4}, {3, at(0), math.MinInt, 4},
		{3, at(1<<32 + 100), 100, 4}, {3, at(-1 << 62), 1 << 62, 4},
	})
	for _, pos := range numbers() {
		for _, encoder := range numbers() {
			runs(t, []row{{8, at(pos), encoder, wanted(8, pos, encoder)}})
		}
	}
}

// P13.1: as long as steps of homing are left, it is never apart; fewer than none
// are none.
func TestHomingIsNotApart(t *testing.T) {
	for _, home := range []int{1, 2, 20, 319, 320, 321, 1 << 32, api.Top, math.MaxInt} {
		runs(t, []row{{39, homing(100, home), 0, 0}, {0, homing(0, home), 300, 0}, {api.MaxTick, homing(-1, home), 300, 0}, {5, homing(100, home), 100, 0}})
	}
	for _, home := range []int{0, -1, -320, -1 << 32, -api.Top, math.MinInt} {
		runs(t, []row{{39, homing(100, home), 0, 40}, {0, homing(0, home), 300, 1}, {5, homing(100, home), 100, 0}})
	}
}

// P13.1: one more than it was, whatever that was.
func TestOneMore(t *testing.T) {
	for _, run := range numbers() {
		runs(t, []row{{run, at(100), 0, before(run) + 1}, {run, at(100), 100, 0}, {run, homing(100, 1), 0, 0}})
	}
}

// P13.2: forty at least.
func TestStalled(t *testing.T) {
	for run := -100; run <= 1000; run++ {
		if got := follow.Stalled(run); got != (run >= 40) {
			t.Fatalf("Stalled(%d): %v", run, got)
		}
	}
	for _, run := range []int{math.MinInt, -api.Top, -api.MaxTick, -1 << 32} {
		if follow.Stalled(run) {
			t.Errorf("stalled at %d", run)
		}
	}
	for _, run := range []int{1 << 32, api.MaxTick, api.MaxTick + 1, api.Top, math.MaxInt} {
		if !follow.Stalled(run) {
			t.Errorf("not stalled at %d", run)
		}
	}
}

// P13.3: who follows is never told to be stalled, whatever was ahead.
func TestWhoFollowsIsNotStalled(t *testing.T) {
	for _, run := range numbers() {
		for pos := 0; pos <= 300; pos++ {
			for slip := -6; slip <= 6; slip++ {
				if follow.Stalled(follow.Apart(run, at(pos), pos+slip)) {
					t.Fatalf("stalled at %d by %d, %d ahead", pos, pos+slip, run)
				}
			}
		}
	}
}

// P13.3: who is apart for forty ticks is, in the fortieth one, whatever was
// ahead; and not earlier, if he followed ahead of that.
func TestApartForFortyTicks(t *testing.T) {
	rnd := rand.New(rand.NewSource(133))
	for _, ahead := range numbers() {
		run, fresh := ahead, 0
		for tick := 1; tick <= 80; tick++ {
			pos := rnd.Intn(301)
			encoder := pos + 7 + rnd.Intn(300)
			if rnd.Intn(2) == 0 {
				encoder = pos - 7 - rnd.Intn(300)
			}
			run, fresh = follow.Apart(run, at(pos), encoder), follow.Apart(fresh, at(pos), encoder)
			if tick >= 40 && !follow.Stalled(run) {
				t.Fatalf("not stalled in tick %d: %d, %d ahead", tick, run, ahead)
			}
			if follow.Stalled(fresh) != (tick >= 40) {
				t.Fatalf("in tick %d: %d", tick, fresh)
			}
		}
	}
}

// P13.4: a clamp that is stuck, as near to the motor as one that follows may be,
// while the motor steps away from it, also by just so much that it is apart, is
// told within sixty ticks.
func TestStuckIsTold(t *testing.T) {
	for _, to := range []int{0, 300} {
		for pos := 0; pos <= 300; pos++ {
			for slip := -6; slip <= 6; slip++ {
				if far := max(pos+slip-to, to-pos-slip); far > 6 {
					isTold(t, at(pos), to, pos+slip)
				}
			}
		}
	}
}

// isTold checks that a stuck clamp is told.
func isTold(t *testing.T, m api.Motor, to, stuck int) {
	t.Helper()
	run := 0
	for tick := 1; tick <= 60; tick++ {
		m = motor.Step(m, to)
		run = follow.Apart(run, m, stuck)
		if follow.Stalled(run) {
			return
		}
	}
	t.Fatalf("stuck at %d: not told at %v, %d", stuck, m, run)
}

// R4: nothing is kept from call to call.
func TestNothingIsKept(t *testing.T) {
	for range 100 {
		runs(t, []row{{5, at(100), 0, 6}})
	}
	if follow.Stalled(39) {
		t.Errorf("stalled at 39")
	}
}

// The chapter's example.
func TestExample(t *testing.T) {
	runs(t, []row{{0, at(100), 90, 1}})
}
