package mode_test

import (
	"math"
	"math/rand"
	"slices"
	"testing"

	"pinchcock/mode"
)

// The modes.
const (
	idle = 1 + iota
	priming
	running
	paused
	kvo
	done
	fault
)

// The turns.
const (
	none = iota
	prime
	begin
	pause
	stop
	hazard
	clear
	volume
	timeout
)

// strange are numbers that are no mode, and no turn.
var strange = []int{math.MinInt, -1 << 32, -9, -3, -2, -1, 9, 10, 255, 256 + 3, 1 << 32, 1<<32 + 2, 1<<62 + 1, math.MaxInt}

// table has a row a mode, ModeIdle first: what each turn from TurnNone on makes
// of it, and, as the last one, a number that is no turn.
var table = [7][10]int{
	{idle, priming, running, idle, idle, fault, idle, idle, idle, idle},
	{priming, idle, priming, idle, idle, fault, priming, priming, idle, idle},
	{running, running, running, paused, idle, fault, running, kvo, running, running},
	{paused, paused, running, paused, idle, fault, paused, paused, paused, paused},
	{kvo, kvo, kvo, done, idle, fault, kvo, kvo, done, kvo},
	{done, done, done, done, idle, fault, done, done, done, done},
	{fault, fault, fault, fault, fault, fault, -1, fault, fault, fault},
}

// wanted is what Next is to tell.
func wanted(m, turn int, accepted bool) int {
	if m < idle || m > fault {
		return fault
	}
	if turn < none || turn > timeout {
		turn = timeout + 1
	}
	if m == fault && turn == clear {
		if accepted {
			return paused
		}
		return idle
	}
	return table[m-1][turn]
}

// next runs Next, and holds it against what is wanted.
func next(t *testing.T, m, turn int, accepted bool, want int) int {
	t.Helper()
	got := mode.Next(m, turn, accepted)
	if got != want {
		t.Fatalf("Next(%d, %d, %v): %d, want %d", m, turn, accepted, got, want)
	}
	return got
}

// P37.1: of each mode, at each turn.
func TestNext(t *testing.T) {
	for m := idle; m <= fault; m++ {
		for turn := none; turn <= timeout; turn++ {
			next(t, m, turn, false, wanted(m, turn, false))
			next(t, m, turn, true, wanted(m, turn, true))
		}
	}
	next(t, fault, clear, true, paused)
	next(t, fault, clear, false, idle)
	next(t, fault, stop, true, fault)
}

// P37.1: of a number that is no mode ModeFault, whatever the turn is.
func TestNextOfNoMode(t *testing.T) {
	for _, m := range append([]int{0, 8}, strange...) {
		for _, turn := range append([]int{none, prime, begin, pause, stop, hazard, clear, volume, timeout}, strange...) {
			next(t, m, turn, false, fault)
			next(t, m, turn, true, fault)
		}
	}
}

// P37.1: a number that is no turn ends ModePriming, and nothing else.
func TestNextAtNoTurn(t *testing.T) {
	for _, turn := range strange {
		for _, accepted := range []bool{false, true} {
			next(t, priming, turn, accepted, idle)
			for _, m := range []int{idle, running, paused, kvo, done, fault} {
				next(t, m, turn, accepted, m)
			}
		}
	}
}

// told is which modes one of the questions is true of.
func told(ask func(int) bool) []int {
	l := []int{}
	for m := -2000; m <= 2000; m++ {
		if ask(m) {
			l = append(l, m)
		}
	}
	for _, m := range strange {
		if ask(m) {
			l = append(l, m)
		}
	}
	return l
}

// P37.2, P37.3 and P37.4: of these modes, and of no other number.
func TestOpensInfusesAccepts(t *testing.T) {
	if got := told(mode.Opens); !slices.Equal(got, []int{priming, running, kvo}) {
		t.Errorf("Opens: %v", got)
	}
	if got := told(mode.Infuses); !slices.Equal(got, []int{running, kvo}) {
		t.Errorf("Infuses: %v", got)
	}
	if got := told(mode.Accepts); !slices.Equal(got, []int{running, paused, kvo, done}) {
		t.Errorf("Accepts: %v", got)
	}
}

// P37.5: the names, and ? of a number that is no mode.
func TestName(t *testing.T) {
	names := []string{"?", "?", "IDLE", "PRIMING", "RUNNING", "PAUSED", "KVO", "DONE", "FAULT", "?", "?"}
	for k, name := range names {
		if got := mode.Name(k - 1); got != name {
			t.Errorf("Name(%d): %q, want %q", k-1, got, name)
		}
	}
	for _, m := range strange {
		if got := mode.Name(m); got != "?" {
			t.Errorf("Name(%d): %q", m, got)
		}
	}
}

// P37.6: at a hazard nothing opens, and nothing but TurnClear leads out of a
// fault, to where nothing opens.
func TestFaults(t *testing.T) {
	for m := -20; m <= 20; m++ {
		for turn := -20; turn <= 20; turn++ {
			for _, accepted := range []bool{false, true} {
				if mode.Opens(mode.Next(m, hazard, accepted)) {
					t.Fatalf("mode %d: it opens at a hazard", m)
				}
				got := mode.Next(fault, turn, accepted)
				if got != fault && turn != clear || mode.Opens(got) {
					t.Fatalf("turn %d: out of a fault to %d", turn, got)
				}
			}
		}
	}
}

// P37.7: it opens only by TurnPrime, by TurnBegin, or because it did; and
// ModeKvo comes of ModeRunning alone.
func TestWhatOpens(t *testing.T) {
	rnd := rand.New(rand.NewSource(377))
	m := idle
	for range 50000 {
		was, turn := m, rnd.Intn(11)-1
		m = mode.Next(m, turn, rnd.Intn(2) == 0)
		if mode.Opens(m) && !mode.Opens(was) && turn != prime && turn != begin {
			t.Fatalf("from %d to %d at the turn %d", was, m, turn)
		}
		if m == kvo && was != kvo && was != running || m < idle || m > fault {
			t.Fatalf("from %d to %d at the turn %d", was, m, turn)
		}
	}
}

// R4: nothing is kept from call to call.
func TestNothingIsKept(t *testing.T) {
	for range 3 {
		next(t, idle, begin, false, running)
		next(t, running, pause, false, paused)
		next(t, paused, begin, false, running)
	}
}

// The chapter's example: running, at TurnVolume.
func TestExample(t *testing.T) {
	next(t, running, volume, true, kvo)
}
