package clamp_test

import (
	"math"
	"math/rand"
	"testing"

	"pinchcock/api"
	"pinchcock/clamp"
	"pinchcock/follow"
	"pinchcock/motor"
)

// at is a clamp whose motor is home, at that position, and that was wanted there.
func at(pos int) api.Clamp {
	return api.Clamp{Motor: api.Motor{Pos: pos}, Want: pos}
}

// row is what Step is given, and what is wanted of it.
type row struct {
	c       api.Clamp
	want    int
	shut    bool
	encoder int
	then    api.Clamp
	stalled bool
}

// runs runs the rows.
func runs(t *testing.T, rows []row) {
	t.Helper()
	for _, r := range rows {
		if got, stalled := clamp.Step(r.c, r.want, r.shut, r.encoder); got != r.then || stalled != r.stalled {
			t.Errorf("Step(%+v, %d, %v, %d): %+v, %v, want %+v, %v", r.c, r.want, r.shut, r.encoder, got, stalled, r.then, r.stalled)
		}
	}
}

// made is a clamp of these numbers.
func made(pos, home, apart, want int) api.Clamp {
	return api.Clamp{Motor: api.Motor{Pos: pos, Home: home}, Apart: apart, Want: want}
}

// anyNumber is a number that a clamp has, one beside these, or any.
func anyNumber(rnd *rand.Rand, most int) int {
	switch rnd.Intn(8) {
	case 0:
		return int(rnd.Uint64()) >> rnd.Intn(63)
	case 1:
		return -rnd.Intn(20)
	case 2:
		return most + rnd.Intn(20)
	case 3:
		return 0
	}
	return rnd.Intn(most + 1)
}

// anyClamp is a clamp of such numbers.
func anyClamp(rnd *rand.Rand) api.Clamp {
	return made(anyNumber(rnd, 300), anyNumber(rnd, 320)*rnd.Intn(2), anyNumber(rnd, 45), anyNumber(rnd, 300))
}

// P14.1: it has its motor's start, and is wanted shut.
func TestStart(t *testing.T) {
	if got := clamp.Start(); got != made(300, 320, 0, 0) || got.Motor != motor.Start() {
		t.Errorf("Start(): %+v", got)
	}
}

// P14.2: it goes where it is wanted, a step a tick.
func TestStep(t *testing.T) {
	runs(t, []row{
		{at(100), 200, false, 100, made(101, 0, 0, 200), false},
		{at(100), 50, false, 100, made(99, 0, 0, 50), false},
		{at(100), 100, false, 100, made(100, 0, 0, 100), false},
		{at(100), 300, false, 100, made(101, 0, 0, 300), false},
		{at(100), 0, false, 100, made(99, 0, 0, 0), false},
		{made(100, 0, 0, 7), 200, false, 100, made(101, 0, 0, 200), false},
		{made(100, 50, 0, 0), 200, false, 100, made(99, 49, 0, 200), false},
		{made(100, 1, 0, 0), 200, false, 100, made(0, 0, 0, 200), false},
	})
}

// P14.2: where it is wanted counts as from 0 to 300.
func TestWantedBeyond(t *testing.T) {
	for _, low := range []int{math.MinInt, -api.Top, -1 << 32, -300, -1} {
		runs(t, []row{{at(100), low, false, 100, made(99, 0, 0, 0), false}, {at(0), low, false, 0, made(0, 0, 0, 0), false}})
	}
	for _, high := range []int{301, 302, 512, 1 << 32, api.Top, math.MaxInt} {
		runs(t, []row{{at(100), high, false, 100, made(101, 0, 0, 300), false}, {at(300), high, false, 300, made(300, 0, 0, 300), false}})
	}
}

// P14.2: what is to be shut is wanted at 0, wherever it is wanted else.
func TestStepOfWhatIsToBeShut(t *testing.T) {
	for _, want := range []int{math.MinInt, -1, 0, 1, 99, 100, 101, 300, 301, math.MaxInt} {
		runs(t, []row{
			{at(100), want, true, 100, made(99, 0, 0, 0), false},
			{at(0), want, true, 0, made(0, 0, 0, 0), false},
			{made(100, 20, 0, 100), want, true, 100, made(99, 19, 0, 0), false},
			{made(100, 0, 39, 100), want, true, 0, made(99, 0, 40, 0), true},
		})
	}
}

// P14.2: it is apart, if the encoder is from where the motor was, not from where
// it goes; and stalled, if that is for the fortieth tick.
func TestStepOfWhatIsApart(t *testing.T) {
	runs(t, []row{
		{at(100), 200, false, 94, made(101, 0, 0, 200), false},
		{at(100), 200, false, 93, made(101, 0, 1, 200), false},
		{at(100), 200, false, 106, made(101, 0, 0, 200), false},
		{at(100), 200, false, 107, made(101, 0, 1, 200), false},
		{at(100), 0, false, 94, made(99, 0, 0, 0), false},
		{at(100), 0, false, 93, made(99, 0, 1, 0), false},
		{made(100, 0, 38, 9), 200, false, 0, made(101, 0, 39, 200), false},
		{made(100, 0, 39, 9), 200, false, 0, made(101, 0, 40, 200), true},
		{made(100, 0, 40, 9), 200, false, 0, made(101, 0, 41, 200), true},
		{made(100, 0, 900, 9), 200, false, 100, made(101, 0, 0, 200), false},
		{made(100, 0, -5, 9), 200, false, 0, made(101, 0, 1, 200), false},
		{made(100, 0, api.MaxTick, 9), 200, false, 0, made(101, 0, api.MaxTick+1, 200), true},
		{made(100, 0, math.MaxInt, 9), 200, false, 0, made(101, 0, api.MaxTick+1, 200), true},
		{made(100, 2, 39, 9), 200, false, 0, made(99, 1, 0, 200), false},
		{made(100, 1, 39, 9), 200, false, 0, made(0, 0, 0, 200), false},
	})
}

// P14.2: a motor's numbers beyond count as its nearest, but apart it is by its
// position as it was.
func TestStepOfNumbersBeyond(t *testing.T) {
	runs(t, []row{
		{made(400, 0, 39, 0), 300, false, 300, made(300, 0, 40, 300), true},
		{made(400, 0, 39, 0), 300, false, 400, made(300, 0, 0, 300), false},
		{made(-50, 0, 39, 0), 300, false, 0, made(1, 0, 40, 300), true},
		{made(-50, 0, 39, 0), 300, false, -50, made(1, 0, 0, 300), false},
		{made(50, -1, 39, 0), 300, false, 0, made(51, 0, 40, 300), true},
		{made(50, 1000, 39, 0), 300, false, 0, made(49, 319, 0, 300), false},
		{made(math.MaxInt, math.MinInt, 39, 0), 300, false, math.MinInt, made(300, 0, 40, 300), true},
	})
}

// P14.2: in all of it, it is what the motor and what follows tell.
func TestStepIsOfItsParts(t *testing.T) {
	rnd := rand.New(rand.NewSource(142))
	for range 20000 {
		c, want, shut, encoder := anyClamp(rnd), anyNumber(rnd, 300), rnd.Intn(3) == 0, anyNumber(rnd, 300)
		to := min(max(want, 0), 300)
		if shut {
			to = 0
		}
		apart := follow.Apart(c.Apart, c.Motor, encoder)
		runs(t, []row{{c, want, shut, encoder, api.Clamp{Motor: motor.Step(c.Motor, to), Apart: apart, Want: to}, follow.Stalled(apart)}})
	}
}

// P14.3: it is shut, if its motor is closed, whatever else there is.
func TestShut(t *testing.T) {
	rows := []struct {
		c    api.Clamp
		want bool
	}{
		{at(0), true}, {made(0, 0, 99, 300), true}, {at(1), false}, {made(0, 1, 0, 0), false}, {made(1, 0, 0, 0), false}, {clamp.Start(), false},
		{made(-1, 0, 0, 5), true}, {made(-1, -1, 0, 5), true}, {made(0, -1, 0, 5), true}, {made(math.MinInt, math.MinInt, 0, 0), true},
		{made(0, math.MaxInt, 0, 0), false}, {made(math.MaxInt, 0, 0, 0), false},
	}
	for _, r := range rows {
		if got := clamp.Shut(r.c); got != r.want {
			t.Errorf("Shut(%+v): %v", r.c, got)
		}
	}
	rnd := rand.New(rand.NewSource(143))
	for range 5000 {
		if c := anyClamp(rnd); clamp.Shut(c) != motor.Closed(c.Motor) {
			t.Fatalf("Shut(%+v): %v", c, clamp.Shut(c))
		}
	}
}

// P14.4: what is to be shut is, within 400 ticks, whatever the encoder tells,
// and is wanted at 0 all the time; and it stays shut.
func TestShutWithinSoManyTicks(t *testing.T) {
	rnd := rand.New(rand.NewSource(144))
	starts := []api.Clamp{clamp.Start(), at(300), made(300, 1, 0, 300), made(0, 320, 0, 300), made(math.MaxInt, math.MaxInt, math.MaxInt, math.MaxInt)}
	for range 200 {
		starts = append(starts, anyClamp(rnd))
	}
	for _, start := range starts {
		c := start
		for tick := 1; tick <= 410; tick++ {
			c, _ = clamp.Step(c, anyNumber(rnd, 300), true, anyNumber(rnd, 300))
			if c.Want != 0 {
				t.Fatalf("%+v: wanted at %d in tick %d", start, c.Want, tick)
			}
			if tick >= 400 && !clamp.Shut(c) {
				t.Fatalf("%+v: not shut in tick %d: %+v", start, tick, c)
			}
		}
	}
}

// P14.5: whose encoder tells where the motor was is never stalled, whatever was
// ahead.
func TestNeverStalled(t *testing.T) {
	rnd := rand.New(rand.NewSource(145))
	for range 100 {
		c := anyClamp(rnd)
		for tick := range 400 {
			then, stalled := clamp.Step(c, anyNumber(rnd, 300), rnd.Intn(50) == 0, c.Motor.Pos)
			if stalled || follow.Stalled(then.Apart) {
				t.Fatalf("%+v: stalled in tick %d: %+v", c, tick, then)
			}
			c = then
		}
	}
}

// R4: nothing is kept from call to call.
func TestNothingIsKept(t *testing.T) {
	for range 50 {
		runs(t, []row{{made(100, 0, 38, 9), 200, false, 0, made(101, 0, 39, 200), false}})
	}
	if got := clamp.Start(); got != made(300, 320, 0, 0) {
		t.Errorf("Start(): %+v", got)
	}
}

// The chapter's example.
func TestExample(t *testing.T) {
	runs(t, []row{{at(100), 300, true, 100, made(99, 0, 0, 0), false}})
}
