package loss_test

import (
	"math"
	"math/rand"
	"testing"

	"pinchcock/api"
	"pinchcock/loss"
)

// long is the greatest count of ticks.
const long = 1 << 40

// of is a loss.
func of(since, wide int) api.Loss {
	return api.Loss{Since: since, Wide: wide}
}

// step runs Step, and holds it against what is wanted.
func step(t *testing.T, l api.Loss, armed, drop, wide bool, want api.Loss) {
	t.Helper()
	if got := loss.Step(l, armed, drop, wide); got != want {
		t.Fatalf("Step(%+v, %v, %v, %v): %+v, want %+v", l, armed, drop, wide, got, want)
	}
}

// losses are some, also such as may not be.
var losses = []api.Loss{{}, of(1, 0), of(0, 1), of(7, 9), of(499, 500), of(28850, 3), of(-1, 5), of(5, -1), of(long, long), of(math.MaxInt, math.MinInt), of(math.MinInt, math.MaxInt)}

// P32.1: nothing is left, if it is not armed.
func TestStepNotArmed(t *testing.T) {
	for _, l := range losses {
		for k := range 4 {
			step(t, l, false, k&1 == 1, k&2 == 2, api.Loss{})
		}
	}
}

// P32.1: each counts by itself: Since till a drop comes, Wide as long as it is.
func TestStepArmed(t *testing.T) {
	rows := []struct {
		l          api.Loss
		drop, wide bool
		want       api.Loss
	}{
		{of(0, 0), false, false, of(1, 0)}, {of(0, 0), false, true, of(1, 1)}, {of(0, 0), true, false, of(0, 0)}, {of(0, 0), true, true, of(0, 1)},
		{of(7, 9), false, false, of(8, 0)}, {of(7, 9), false, true, of(8, 10)}, {of(7, 9), true, false, of(0, 0)}, {of(7, 9), true, true, of(0, 10)},
		{of(28849, 499), false, true, of(28850, 500)}, {of(28850, 500), false, true, of(28851, 501)},
	}
	for _, r := range rows {
		step(t, r.l, true, r.drop, r.wide, r.want)
	}
}

// P32.1: what it was counts as from 0 to MaxTick.
func TestStepOfCountsBeyond(t *testing.T) {
	for _, low := range []int{math.MinInt, -api.Top, -2, -1, 0} {
		step(t, of(low, low), true, false, true, of(1, 1))
		step(t, of(low, 5), true, false, true, of(1, 6))
		step(t, of(5, low), true, false, true, of(6, 1))
		step(t, of(low, low), true, true, false, of(0, 0))
	}
	step(t, of(long-1, long-1), true, false, true, of(long, long))
	for _, high := range []int{long, long + 1, api.Top, math.MaxInt - 1, math.MaxInt} {
		step(t, of(high, high), true, false, true, of(long+1, long+1))
		step(t, of(high, 5), true, false, true, of(long+1, 6))
		step(t, of(5, high), true, false, true, of(6, long+1))
		step(t, of(high, high), true, true, false, of(0, 0))
	}
}

// P32.2: Since is not below the timeout, which is 1 at least.
func TestLost(t *testing.T) {
	for _, wide := range []int{math.MinInt, 0, 500, math.MaxInt} {
		for since := range 30 {
			for timeout := 1; timeout < 30; timeout++ {
				if got := loss.Lost(of(since, wide), timeout); got != (since >= timeout) {
					t.Fatalf("Lost(%+v, %d): %v", of(since, wide), timeout, got)
				}
			}
		}
		for _, timeout := range []int{math.MinInt, -api.Top, -1, 0, 1} {
			for _, since := range []int{math.MinInt, -api.Top, -5, -1, 0, 1, 2, 1000, math.MaxInt} {
				if got := loss.Lost(of(since, wide), timeout); got != (since >= 1) {
					t.Fatalf("Lost(%+v, %d): %v", of(since, wide), timeout, got)
				}
			}
		}
	}
	if loss.Lost(of(28849, 0), 28850) || !loss.Lost(of(28850, 0), 28850) || loss.Lost(of(28851, 0), math.MaxInt) || !loss.Lost(of(long, 0), long) {
		t.Error("at long timeouts")
	}
}

// P32.2: Wide is 500 at least.
func TestEmpty(t *testing.T) {
	for _, since := range []int{math.MinInt, 0, 500, math.MaxInt} {
		for _, wide := range []int{math.MinInt, -500, -1, 0, 1, 50, 498, 499, 500, 501, 5000, long, math.MaxInt} {
			if got := loss.Empty(of(since, wide)); got != (wide >= 500) {
				t.Errorf("Empty(%+v): %v", of(since, wide), got)
			}
		}
	}
}

// tick is what is told of one.
type tick struct{ armed, drop, wide bool }

// lost is whether it was armed, and without a drop, in all of the last ticks.
func lost(l []tick, timeout int) bool {
	if len(l) < timeout {
		return false
	}
	for _, k := range l[len(l)-timeout:] {
		if !k.armed || k.drop {
			return false
		}
	}
	return true
}

// P32.3: drops are missed just if it was armed, and there was none, in all ticks
// of the timeout up to this one.
func TestLostJustIfThereWasNone(t *testing.T) {
	rnd := rand.New(rand.NewSource(323))
	for range 300 {
		l, all, often := api.Loss{}, []tick{}, 5+rnd.Intn(40)
		for range 300 {
			now := tick{rnd.Intn(2*often) > 0, rnd.Intn(often) == 0, rnd.Intn(2) == 0}
			l, all = loss.Step(l, now.armed, now.drop, now.wide), append(all, now)
			for _, timeout := range []int{1, 2, 3, 7, 20, 50} {
				if loss.Lost(l, timeout) != lost(all, timeout) {
					t.Fatalf("behind %d ticks: %+v, of the timeout %d", len(all), l, timeout)
				}
			}
		}
	}
}

// P32.1 and P32.2: empty in the five-hundredth tick of a clamp that is wide open,
// whether there are drops or not, and till it is no more.
func TestEmptyInTheLastTick(t *testing.T) {
	l := api.Loss{}
	for k := 1; k <= 700; k++ {
		l = loss.Step(l, true, k%40 == 0, true)
		if loss.Empty(l) != (k >= 500) {
			t.Fatalf("tick %d: %+v", k, l)
		}
	}
	if loss.Empty(loss.Step(l, true, false, false)) || loss.Empty(loss.Step(l, false, false, true)) {
		t.Error("it stays empty")
	}
}

// R4: nothing is kept from call to call.
func TestNothingIsKept(t *testing.T) {
	for range 3 {
		step(t, of(7, 9), true, false, true, of(8, 10))
		step(t, of(7, 9), false, false, true, of(0, 0))
	}
}

// The chapter's example: armed for 3 ticks without a drop.
func TestExample(t *testing.T) {
	l := api.Loss{}
	for k := 1; k <= 3; k++ {
		l = loss.Step(l, true, false, false)
		if loss.Lost(l, 3) != (k == 3) {
			t.Errorf("tick %d: %+v", k, l)
		}
	}
}
