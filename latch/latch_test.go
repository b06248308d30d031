package latch_test

import (
	"math"
	"math/rand"
	"slices"
	"testing"

	"pinchcock/api"
	"pinchcock/latch"
)

// every are all hazards, rising, and high those of the highest level.
var (
	every = []int{1, 2, 4, 8, 16, 32, 64, 128, 256, 512, 1024, 2048}
	high  = []int{1, 2, 256, 512, 1024, 2048}
)

// all is the sum of all hazards.
const all = 4095

// wild are numbers with other bits.
var wild = []int{math.MinInt, math.MinInt + 1, math.MinInt + 2048, -api.Top, -4097, -4096, -4095, -129, -2, -1, 4096, 4097, 4096 + 128, 8191, 1 << 32, 1<<32 + 64, 1<<62 + 5, api.Top, math.MaxInt - 1, math.MaxInt}

// has is whether a hazard is among those of a latch.
func has(l, hazard int) bool {
	for range slices.Index(every, hazard) {
		l >>= 1
	}
	return l&1 == 1
}

// parts are the hazards of a latch, rising.
func parts(l int) []int {
	p := []int{}
	for _, hazard := range every {
		if has(l, hazard) {
			p = append(p, hazard)
		}
	}
	return p
}

// both are the hazards that a and b have by some rule.
func both(a, b int, rule func(x, y bool) bool) int {
	sum := 0
	for _, hazard := range every {
		if rule(has(a, hazard), has(b, hazard)) {
			sum += hazard
		}
	}
	return sum
}

// raised and acked are what Raise and Ack are to tell.
func raised(l, hazards int) int { return both(l, hazards, func(x, y bool) bool { return x || y }) }
func acked(l, held int) int     { return both(l, held, func(x, y bool) bool { return x && y }) }

// levelled is what Level is to tell.
func levelled(l int) int {
	level := 0
	for _, hazard := range parts(l) {
		level = max(level, 2)
		if slices.Contains(high, hazard) {
			level = 3
		}
	}
	return level
}

// hold holds all calls of two numbers against what is wanted.
func hold(t *testing.T, a, b int) {
	t.Helper()
	if got, want := latch.Raise(a, b), raised(a, b); got != want {
		t.Fatalf("Raise(%d, %d): %d, want %d", a, b, got, want)
	}
	if got, want := latch.Ack(a, b), acked(a, b); got != want {
		t.Fatalf("Ack(%d, %d): %d, want %d", a, b, got, want)
	}
}

// P34.1: with these, too.
func TestRaise(t *testing.T) {
	rows := [][3]int{{0, 0, 0}, {0, 128, 128}, {128, 0, 128}, {128, 128, 128}, {64, 128, 192}, {192, 128, 192}, {3, 5, 7}, {all, 0, all}, {0, all, all}, {2048, 1, 2049}, {0, 4096, 0}, {4096, 0, 0}, {4097, 8192, 1}, {-1, 0, all}, {0, -1, all}, {-4096, 8, 8}, {math.MinInt, math.MaxInt, all}, {math.MinInt, 0, 0}}
	for _, r := range rows {
		if got := latch.Raise(r[0], r[1]); got != r[2] {
			t.Errorf("Raise(%d, %d): %d, want %d", r[0], r[1], got, r[2])
		}
	}
}

// P34.2: those that are held.
func TestAck(t *testing.T) {
	rows := [][3]int{{0, 0, 0}, {0, 128, 0}, {128, 0, 0}, {128, 128, 128}, {192, 128, 128}, {64, 128, 0}, {7, 5, 5}, {5, 7, 5}, {all, all, all}, {all, 0, 0}, {all, 2048, 2048}, {4096, 4096, 0}, {4097, 4097, 1}, {-1, -1, all}, {-1, 8, 8}, {8, -1, 8}, {-4096, -1, 0}, {math.MinInt, math.MinInt, 0}, {math.MaxInt, math.MaxInt, all}}
	for _, r := range rows {
		if got := latch.Ack(r[0], r[1]); got != r[2] {
			t.Errorf("Ack(%d, %d): %d, want %d", r[0], r[1], got, r[2])
		}
	}
}

// P34.1 and P34.2: each latch with some others, and numbers with other bits.
func TestRaiseAndAckOfEach(t *testing.T) {
	rnd := rand.New(rand.NewSource(341))
	for l := range all + 1 {
		for range 20 {
			hold(t, l, rnd.Intn(all+1))
		}
		for _, w := range wild {
			hold(t, l, w)
			hold(t, w, l)
		}
	}
	for _, a := range wild {
		for _, b := range wild {
			hold(t, a, b)
		}
	}
}

// P34.3: each hazard by itself, and all without one.
func TestLevel(t *testing.T) {
	rows := []struct{ l, level int }{
		{0, 0}, {1, 3}, {2, 3}, {4, 2}, {8, 2}, {16, 2}, {32, 2}, {64, 2}, {128, 2}, {256, 3}, {512, 3}, {1024, 3}, {2048, 3}, {252, 2}, {253, 3}, {254, 3}, {508, 3}, {all, 3}, {4096, 0}, {4096 + 4, 2}, {4096 + 1, 3}, {-4096, 0}, {-1, 3}, {math.MinInt, 0}, {math.MinInt + 8, 2}, {math.MaxInt, 3}, {1 << 32, 0},
	}
	for _, r := range rows {
		if got := latch.Level(r.l); got != r.level {
			t.Errorf("Level(%d): %d, want %d", r.l, got, r.level)
		}
	}
	for l := range all + 1 {
		if got := latch.Level(l); got != levelled(l) {
			t.Errorf("Level(%d): %d", l, got)
		}
	}
	for _, w := range wild {
		if got := latch.Level(w); got != levelled(w) {
			t.Errorf("Level(%d): %d", w, got)
		}
	}
}

// P34.4: its hazards, rising.
func TestWhich(t *testing.T) {
	if got := latch.Which(all); !slices.Equal(got, every) {
		t.Errorf("Which(%d): %v", all, got)
	}
	for l := range all + 1 {
		if got := latch.Which(l); !slices.Equal(got, parts(l)) {
			t.Errorf("Which(%d): %v, want %v", l, got, parts(l))
		}
	}
	for _, w := range wild {
		if got := latch.Which(w); !slices.Equal(got, parts(w)) {
			t.Errorf("Which(%d): %v, want %v", w, got, parts(w))
		}
	}
}

// P34.5: what was raised stays till it is acknowledged when it is not held, and
// nothing comes by acknowledging.
func TestWhatIsRaisedStays(t *testing.T) {
	rnd := rand.New(rand.NewSource(345))
	l, open := 0, map[int]bool{}
	for k := range 20000 {
		hazards := rnd.Intn(all+1) & rnd.Intn(all+1) & rnd.Intn(all+1)
		if rnd.Intn(4) == 0 {
			l = latch.Ack(l, hazards)
			for _, hazard := range every {
				open[hazard] = open[hazard] && has(hazards, hazard)
			}
		} else {
			l = latch.Raise(l, hazards)
			for _, hazard := range parts(hazards) {
				open[hazard] = true
			}
		}
		for _, hazard := range every {
			if has(l, hazard) != open[hazard] {
				t.Fatalf("behind %d: %d, with %d or without", k, l, hazard)
			}
		}
	}
}

// R3 and R4: nothing is kept from call to call, and each list is new memory.
func TestNothingIsKept(t *testing.T) {
	for range 3 {
		got := latch.Which(192)
		if !slices.Equal(got, []int{64, 128}) {
			t.Fatalf("Which(192): %v", got)
		}
		got[0], got[1] = 7, 7
		hold(t, 192, 64)
	}
}

// The chapter's example: HzDoor alone.
func TestExample(t *testing.T) {
	if got := latch.Level(api.HzDoor); got != 2 {
		t.Errorf("of the level %d", got)
	}
}
