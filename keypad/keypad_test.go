package keypad_test

import (
	"math"
	"math/rand"
	"slices"
	"testing"

	"pinchcock/api"
	"pinchcock/keypad"
)

// The keys.
const (
	keyNone = iota
	keyUp
	keyDown
	keyNext
	keyStart
	keyConfirm
	keyPause
	keyStop
	keyPrime
	keyAck
	keySilence
)

// The modes.
const (
	idle = 1 + iota
	priming
	running
	paused
	kvo
	done
	fault
)

// wild are numbers beyond all limits.
var wild = []int{math.MinInt, -1 << 32, -300, -1, 11, 12, 255, 256 + 5, 1<<32 + 4, math.MaxInt}

// usual is the programme where there is none.
var usual = api.Programme{Rate: 60, Vtbi: 100, Set: 20}

// fastest is the greatest rate that may be, by the set.
var fastest = map[int]int{10: 1000, 15: 1000, 20: 1000, 60: 500}

// maybe is whether a programme may be.
func maybe(p api.Programme) bool {
	high, known := fastest[p.Set]
	return known && p.Rate >= 5 && p.Rate <= high && p.Vtbi >= 1 && p.Vtbi <= 5000
}

// of is a pad.
func of(field, rate, vtbi, set int, ask bool) api.Pad {
	return api.Pad{Field: field, Draft: api.Programme{Rate: rate, Vtbi: vtbi, Set: set}, Ask: ask}
}

// within is n from low to high.
func within(n, low, high int) int {
	return min(max(n, low), high)
}

// wantedSet is the set beside another one.
func wantedSet(set, by int) int {
	row := []int{10, 10, 15, 20, 60, 60}
	for k := 1; k <= 4; k++ {
		if row[k] == set {
			return row[k+by]
		}
	}
	return 10
}

// wanted is what Step is to tell.
func wanted(p api.Pad, key, mode, latch int) (api.Pad, api.Wish) {
	if key == keyNone {
		return p, api.Wish{}
	}
	may := latch == 0 && (mode == idle || mode == paused || mode == running) && maybe(p.Draft)
	next, by := p, 0
	next.Ask = key == keyStart && may
	switch key {
	case keyUp:
		by = 1
	case keyDown:
		by = -1
	case keyNext:
		next.Field = []int{1, 2, 0}[within(p.Field, 0, 2)]
	}
	switch {
	case by == 0:
	case p.Field == 0:
		next.Draft.Rate = within(within(p.Draft.Rate, 0, 1000)+5*by, 5, 1000)
	case p.Field == 1:
		next.Draft.Vtbi = within(within(p.Draft.Vtbi, 0, 5000)+10*by, 1, 5000)
	case p.Field == 2:
		next.Draft.Set = wantedSet(p.Draft.Set, by)
	}
	switch {
	case key == keyConfirm && p.Ask && may:
		return next, api.Wish{Kind: 1, Prog: p.Draft}
	case key >= keyPause && key <= keySilence:
		return next, api.Wish{Kind: key - keyPause + 2}
	}
	return next, api.Wish{}
}

// step runs Step, and holds it against what is wanted.
func step(t *testing.T, p api.Pad, key, mode, latch int) (api.Pad, api.Wish) {
	t.Helper()
	next, wish := wanted(p, key, mode, latch)
	got, gotWish := keypad.Step(p, key, mode, latch)
	if got != next || gotWish != wish {
		t.Fatalf("Step(%+v, %d, %d, %d): %+v, %+v, want %+v, %+v", p, key, mode, latch, got, gotWish, next, wish)
	}
	return got, gotWish
}

// P42.1: the programme that may be, or the usual one.
func TestStart(t *testing.T) {
	for _, p := range []api.Programme{{Rate: 5, Vtbi: 1, Set: 10}, {Rate: 1000, Vtbi: 5000, Set: 20}, {Rate: 500, Vtbi: 7, Set: 60}, usual, {Rate: 61, Vtbi: 101, Set: 15}} {
		if got := keypad.Start(p); got != (api.Pad{Draft: p}) {
			t.Errorf("Start(%+v): %+v", p, got)
		}
	}
	for _, p := range []api.Programme{{}, {Rate: 4, Vtbi: 1, Set: 10}, {Rate: 501, Vtbi: 7, Set: 60}, {Rate: 1001, Vtbi: 7, Set: 20}, {Rate: 60, Set: 20}, {Rate: 60, Vtbi: 5001, Set: 20}, {Rate: 60, Vtbi: 100, Set: 7}, {Rate: math.MaxInt, Vtbi: math.MinInt, Set: -1}} {
		if got := keypad.Start(p); got != (api.Pad{Draft: usual}) {
			t.Errorf("Start(%+v): %+v", p, got)
		}
	}
}

// P42.2: at KeyNone nothing happens, whatever the pad is.
func TestKeyNone(t *testing.T) {
	for _, p := range []api.Pad{{}, of(0, 60, 100, 20, true), of(2, 60, 100, 20, false), of(-7, -1, 9999, 13, true), of(math.MaxInt, math.MinInt, 0, 0, true)} {
		for mode := 0; mode <= 8; mode++ {
			for _, latch := range []int{0, 1, -1} {
				if got, wish := step(t, p, keyNone, mode, latch); got != p || wish != (api.Wish{}) {
					t.Errorf("%+v: %+v, %+v", p, got, wish)
				}
			}
		}
	}
}

// turn is a row of what is turned.
type turn struct {
	p    api.Pad
	key  int
	want api.Programme
}

// turns runs the rows.
func turns(t *testing.T, rows []turn) {
	t.Helper()
	for _, r := range rows {
		for _, mode := range []int{idle, running, fault, 0} {
			for _, latch := range []int{0, 64} {
				got, wish := step(t, r.p, r.key, mode, latch)
				if got.Draft != r.want || got.Field != r.p.Field || got.Ask || wish != (api.Wish{}) {
					t.Errorf("key %d of %+v: %+v, %+v", r.key, r.p, got, wish)
				}
			}
		}
	}
}

// P42.2: the rate by 5, from 5 to 1000.
func TestTheRateIsTurned(t *testing.T) {
	of := func(rate int) api.Pad { return of(0, rate, 100, 20, true) }
	to := func(rate int) api.Programme { return api.Programme{Rate: rate, Vtbi: 100, Set: 20} }
	turns(t, []turn{
		{of(60), keyUp, to(65)}, {of(60), keyDown, to(55)}, {of(5), keyUp, to(10)}, {of(5), keyDown, to(5)}, {of(6), keyDown, to(5)}, {of(9), keyDown, to(5)}, {of(10), keyDown, to(5)}, {of(11), keyDown, to(6)}, {of(995), keyUp, to(1000)}, {of(994), keyUp, to(999)}, {of(996), keyUp, to(1000)}, {of(1000), keyUp, to(1000)}, {of(1000), keyDown, to(995)},
		{of(0), keyUp, to(5)}, {of(0), keyDown, to(5)}, {of(1), keyUp, to(6)}, {of(-1), keyUp, to(5)}, {of(-9), keyUp, to(5)}, {of(math.MinInt), keyUp, to(5)}, {of(math.MinInt), keyDown, to(5)}, {of(1001), keyDown, to(995)}, {of(1009), keyUp, to(1000)}, {of(math.MaxInt), keyUp, to(1000)}, {of(math.MaxInt), keyDown, to(995)},
	})
}

// P42.2: the volume by 10, from 1 to 5000.
func TestTheVolumeIsTurned(t *testing.T) {
	of := func(vtbi int) api.Pad { return of(1, 60, vtbi, 20, true) }
	to := func(vtbi int) api.Programme { return api.Programme{Rate: 60, Vtbi: vtbi, Set: 20} }
	turns(t, []turn{
		{of(100), keyUp, to(110)}, {of(100), keyDown, to(90)}, {of(1), keyUp, to(11)}, {of(1), keyDown, to(1)}, {of(11), keyDown, to(1)}, {of(12), keyDown, to(2)}, {of(10), keyDown, to(1)}, {of(4990), keyUp, to(5000)}, {of(4989), keyUp, to(4999)}, {of(4991), keyUp, to(5000)}, {of(5000), keyUp, to(5000)}, {of(5000), keyDown, to(4990)},
		{of(0), keyUp, to(10)}, {of(0), keyDown, to(1)}, {of(-5), keyUp, to(10)}, {of(math.MinInt), keyUp, to(10)}, {of(math.MinInt), keyDown, to(1)}, {of(5001), keyDown, to(4990)}, {of(math.MaxInt), keyUp, to(5000)}, {of(math.MaxInt), keyDown, to(4990)},
	})
}

// P42.2: the set in its row; 10 of one that is not known.
func TestTheSetIsTurned(t *testing.T) {
	of := func(set int) api.Pad { return of(2, 60, 100, set, true) }
	to := func(set int) api.Programme { return api.Programme{Rate: 60, Vtbi: 100, Set: set} }
	turns(t, []turn{
		{of(10), keyUp, to(15)}, {of(15), keyUp, to(20)}, {of(20), keyUp, to(60)}, {of(60), keyUp, to(60)}, {of(60), keyDown, to(20)}, {of(20), keyDown, to(15)}, {of(15), keyDown, to(10)}, {of(10), keyDown, to(10)},
	})
	for _, set := range append([]int{0, 9, 14, 16, 30, 59, 61}, wild...) {
		turns(t, []turn{{of(set), keyUp, to(10)}, {of(set), keyDown, to(10)}})
	}
}

// P42.2: of another field nothing is turned.
func TestAnotherFieldIsNotTurned(t *testing.T) {
	for _, field := range append([]int{3, 4}, wild...) {
		p := of(field, 60, 100, 7, true)
		turns(t, []turn{{p, keyUp, p.Draft}, {p, keyDown, p.Draft}})
	}
}

// P42.2: the fields go round.
func TestKeyNext(t *testing.T) {
	for _, r := range [][2]int{{0, 1}, {1, 2}, {2, 0}, {3, 0}, {math.MaxInt, 0}, {-1, 1}, {-2, 1}, {math.MinInt, 1}} {
		got, wish := step(t, of(r[0], 60, 100, 20, true), keyNext, idle, 0)
		if got != of(r[1], 60, 100, 20, false) || wish != (api.Wish{}) {
			t.Errorf("behind the field %d: %+v, %+v", r[0], got, wish)
		}
	}
}

// P42.2: it asks at KeyStart, if it may be confirmed, and at nothing else.
func TestKeyStart(t *testing.T) {
	for mode := -1; mode <= 9; mode++ {
		for _, latch := range []int{0, 1, 128, 4095, -1, 4096, math.MinInt} {
			for _, p := range []api.Pad{of(1, 60, 100, 20, false), of(1, 60, 100, 20, true), of(1, 60, 100, 7, true), of(1, 501, 100, 60, false), of(1, 60, 0, 20, true), {}} {
				got, wish := step(t, p, keyStart, mode, latch)
				may := latch == 0 && (mode == 1 || mode == 3 || mode == 4) && p.Draft == usual
				if got.Ask != may || got.Draft != p.Draft || got.Field != p.Field || wish != (api.Wish{}) {
					t.Errorf("%+v, mode %d, latch %d: %+v, %+v", p, mode, latch, got, wish)
				}
			}
		}
	}
}

// P42.2: KeyConfirm begins what was asked for, if it may be confirmed still.
func TestKeyConfirm(t *testing.T) {
	for mode := -1; mode <= 9; mode++ {
		for _, latch := range []int{0, 1, 128, 4095, -1, 4096, math.MinInt} {
			for _, p := range []api.Pad{of(1, 60, 100, 20, false), of(1, 60, 100, 20, true), of(1, 60, 100, 7, true), of(1, 501, 100, 60, true), of(1, 60, 0, 20, true), {Ask: true}} {
				got, wish := step(t, p, keyConfirm, mode, latch)
				want := api.Wish{}
				if p == of(1, 60, 100, 20, true) && latch == 0 && (mode == 1 || mode == 3 || mode == 4) {
					want = api.Wish{Kind: api.WishBegin, Prog: usual}
				}
				if got.Ask || got.Draft != p.Draft || wish != want {
					t.Errorf("%+v, mode %d, latch %d: %+v, %+v", p, mode, latch, got, wish)
				}
			}
		}
	}
}

// P42.2: what the other keys ask for, whatever the mode and the latch are; what
// is no key asks for nothing, but takes the question back.
func TestTheOtherKeys(t *testing.T) {
	kinds := []int{0, 0, 0, 0, 0, 0, api.WishPause, api.WishStop, api.WishPrime, api.WishAck, api.WishSilence}
	for key := range kinds {
		if key == keyConfirm {
			continue
		}
		for mode := -1; mode <= 9; mode++ {
			for _, latch := range []int{0, 5, -1} {
				if _, wish := step(t, of(0, 60, 100, 20, true), key, mode, latch); wish != (api.Wish{Kind: kinds[key]}) {
					t.Errorf("key %d: %+v", key, wish)
				}
			}
		}
	}
	for _, key := range wild {
		got, wish := step(t, of(1, -5, 100, 7, true), key, idle, 0)
		if got != of(1, -5, 100, 7, false) || wish != (api.Wish{}) {
			t.Errorf("key %d: %+v, %+v", key, got, wish)
		}
	}
}

// anyPad is a pad of any kind.
func anyPad(rnd *rand.Rand) api.Pad {
	number := func(high int) int {
		if rnd.Intn(12) == 0 {
			return wild[rnd.Intn(len(wild))]
		}
		return rnd.Intn(high+10) - 4
	}
	p := of(rnd.Intn(3), number(1000), number(5000), []int{10, 15, 20, 60, 7}[rnd.Intn(5)], rnd.Intn(2) == 0)
	if rnd.Intn(12) == 0 {
		p.Field = number(3)
	}
	return p
}

// P42.2: of any pad and any key.
func TestAnyPad(t *testing.T) {
	rnd := rand.New(rand.NewSource(422))
	for range 50000 {
		latch := 0
		if rnd.Intn(4) == 0 {
			latch = rnd.Intn(4096)
		}
		step(t, anyPad(rnd), rnd.Intn(13)-1, rnd.Intn(10)-1, latch)
	}
}

// P42.3: nothing begins but by KeyConfirm, when KeyStart was the last key ahead
// of it, with the programme that stood there then, and that may be.
func TestWhatBegins(t *testing.T) {
	rnd := rand.New(rand.NewSource(423))
	p, last, stood, begun := keypad.Start(usual), keyNone, api.Programme{}, 0
	for range 200000 {
		key := rnd.Intn(12)
		if rnd.Intn(3) == 0 {
			key = keyStart + rnd.Intn(2)
		}
		at, latch := p.Draft, rnd.Intn(8)/7
		next, wish := keypad.Step(p, key, 1+rnd.Intn(7), latch)
		if wish.Kind == api.WishBegin {
			begun++
			if key != keyConfirm || last != keyStart || wish.Prog != stood || !maybe(wish.Prog) || latch != 0 {
				t.Fatalf("key %d behind %d: %+v, and %+v stood there", key, last, wish, stood)
			}
		} else if wish.Prog != (api.Programme{}) {
			t.Fatalf("key %d: %+v", key, wish)
		}
		if key != keyNone {
			last = key
		}
		if key == keyStart {
			stood = at
		}
		p = next
	}
	if begun < 1000 {
		t.Fatalf("it began %d times", begun)
	}
}

// P42.4: whatever is turned, a rate and a volume that may be stay so.
func TestWhatMayBeStaysSo(t *testing.T) {
	rnd := rand.New(rand.NewSource(424))
	p := keypad.Start(usual)
	for range 50000 {
		p, _ = keypad.Step(p, []int{keyUp, keyUp, keyDown, keyNext}[rnd.Intn(4)], 1+rnd.Intn(7), rnd.Intn(2))
		if p.Draft.Rate < 5 || p.Draft.Rate > 1000 || p.Draft.Vtbi < 1 || p.Draft.Vtbi > 5000 || !slices.Contains([]int{10, 15, 20, 60}, p.Draft.Set) {
			t.Fatalf("%+v", p)
		}
	}
}

// P42.4: what is turned up, and down again, is as it was, but at the ends.
func TestUpAndDownAgain(t *testing.T) {
	again := func(p api.Pad) {
		t.Helper()
		q, _ := keypad.Step(p, keyUp, idle, 0)
		q, _ = keypad.Step(q, keyDown, idle, 0)
		if q != p {
			t.Fatalf("%+v: %+v", p, q)
		}
	}
	for rate := 5; rate <= 995; rate++ {
		again(of(0, rate, 100, 20, false))
	}
	for vtbi := 1; vtbi <= 4990; vtbi++ {
		again(of(1, 60, vtbi, 20, false))
	}
	for _, set := range []int{10, 15, 20} {
		again(of(2, 60, 100, set, false))
	}
}

// R4: nothing is kept from call to call.
func TestNothingIsKept(t *testing.T) {
	for range 3 {
		step(t, of(0, 60, 100, 20, false), keyStart, idle, 0)
		step(t, of(0, 60, 100, 20, false), keyConfirm, idle, 0)
		step(t, of(0, 60, 100, 20, true), keyConfirm, idle, 0)
	}
}

// The chapter's example: start, then confirm.
func TestExample(t *testing.T) {
	p, _ := keypad.Step(keypad.Start(usual), api.KeyStart, api.ModeIdle, 0)
	if _, wish := keypad.Step(p, api.KeyConfirm, api.ModeIdle, 0); wish != (api.Wish{Kind: api.WishBegin, Prog: usual}) {
		t.Errorf("%+v", wish)
	}
}
