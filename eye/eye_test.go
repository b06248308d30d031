package eye_test

import (
	"math"
	"math/rand"
	"slices"
	"testing"

	"pinchcock/api"
	"pinchcock/eye"
)

// nearest is the number from 0 to most that is nearest to n.
func nearest(n, most int) int {
	return min(max(n, 0), most)
}

// followed is the base behind a light that is not shaded, rounded down.
func followed(base, light int) int {
	missing := 64*nearest(light, 4095) - base
	n := missing / 64
	if n*64 > missing {
		n--
	}
	return base + n
}

// darker is how much darker the light is than the base's level.
func darker(base, light int) int {
	return base/64 - min(max(light, -api.Top), api.Top)
}

// wanted is what Step is to tell, by the chapters, written out.
func wanted(e api.Eye, r api.Rec) (api.Eye, api.Seen) {
	base := nearest(e.Base, 64*4095)
	if !e.Begun {
		base = 64 * nearest(r.Adc, 4095)
	}
	dark := darker(base, r.Adc)
	shaded := dark >= 400 || dark > 200 && e.Shaded
	then := api.Eye{Begun: true, Base: base, Shaded: shaded, Steady: api.Steady{On: e.Steady.On}}
	if !shaded {
		then.Base = followed(base, r.Adc)
	}
	edge := false
	if shaded != e.Steady.On {
		if e.Steady.Run >= 1 {
			then.Steady.On, edge = shaded, shaded
		} else {
			then.Steady.Run = 1
		}
	}
	drop := edge && e.Wait <= 0
	if drop {
		then.Wait = 4
	} else if e.Wait > 0 {
		then.Wait = min(e.Wait, 4) - 1
	}
	if shaded {
		then.Run = nearest(e.Run, api.MaxTick) + 1
	}
	if r.Adc <= 0 || r.Adc >= 4095 || r.Bad&1 != 0 {
		then.Rail = nearest(e.Rail, api.MaxTick) + 1
	}
	return then, api.Seen{Drop: drop, Shaded: shaded, Stream: then.Run >= 12, Fault: then.Rail >= 50 || r.Bad != 0}
}

// step is a row of Step.
type step struct {
	e    api.Eye
	r    api.Rec
	then api.Eye
	seen api.Seen
}

// steps runs the rows.
func steps(t *testing.T, rows []step) {
	t.Helper()
	for _, r := range rows {
		if then, seen := eye.Step(r.e, r.r); then != r.then || seen != r.seen {
			t.Fatalf("Step(%+v, %+v): %+v, %+v, want %+v, %+v", r.e, r.r, then, seen, r.then, r.seen)
		}
	}
}

// isWanted checks a tick against the chapters.
func isWanted(t *testing.T, e api.Eye, r api.Rec) {
	t.Helper()
	then, seen := wanted(e, r)
	steps(t, []step{{e, r, then, seen}})
}

// light is a record of that light alone.
func light(adc int) api.Rec {
	return api.Rec{Adc: adc}
}

// calm is an eye that has seen the light 3000 for long.
func calm() api.Eye {
	return api.Eye{Begun: true, Base: 64 * 3000}
}

// dropsOf is in which ticks a drop is seen.
func dropsOf(all []api.Seen) []int {
	ticks := []int{}
	for i, seen := range all {
		if seen.Drop {
			ticks = append(ticks, i)
		}
	}
	return ticks
}

// lights is so many ticks of the one light, then of the other, and so on.
func lights(one, other int, counts ...int) []int {
	all := []int{}
	for i, n := range counts {
		all = append(all, slices.Repeat([]int{[]int{one, other}[i%2]}, n)...)
	}
	return all
}

// P22.1: an eye that has not begun takes the light as it is, whatever base it
// has; one that has goes by its own.
func TestBegin(t *testing.T) {
	began := func(base int) api.Eye { return api.Eye{Begun: true, Base: base} }
	steps(t, []step{
		{api.Eye{}, light(3000), began(64 * 3000), api.Seen{}},
		{api.Eye{Base: 64 * 4000}, light(3000), began(64 * 3000), api.Seen{}},
		{api.Eye{Base: -9}, light(100), began(6400), api.Seen{}},
		{api.Eye{}, light(1), began(64), api.Seen{}},
		{api.Eye{Shaded: true}, light(3000), began(64 * 3000), api.Seen{}},
		{began(6400), light(164), began(6464), api.Seen{}},
		{began(6465), light(100), began(6463), api.Seen{}},
		{began(0), light(3000), began(3000), api.Seen{}},
	})
}

// P22.1: it is shaded by the level ahead of the tick, and by whether it was; the
// base follows the light only if it is not.
func TestShaded(t *testing.T) {
	was := calm()
	was.Shaded = true
	dark := api.Seen{Shaded: true}
	shaded := api.Eye{Begun: true, Base: 64 * 3000, Shaded: true, Steady: api.Steady{Run: 1}, Run: 1}
	steps(t, []step{
		{calm(), light(3000), calm(), api.Seen{}},
		{calm(), light(2601), api.Eye{Begun: true, Base: 64*3000 - 399}, api.Seen{}},
		{calm(), light(2600), shaded, dark},
		{calm(), light(2000), shaded, dark},
		{was, light(2700), shaded, dark},
		{was, light(2799), shaded, dark},
		{was, light(2800), api.Eye{Begun: true, Base: 64*3000 - 200}, api.Seen{}},
		{api.Eye{Begun: true, Base: 64*3000 - 1}, light(2600), api.Eye{Begun: true, Base: 64*3000 - 401}, api.Seen{}},
		{api.Eye{Begun: true, Base: 64*3000 + 63}, light(2600), api.Eye{Begun: true, Base: 64*3000 + 63, Shaded: true, Steady: api.Steady{Run: 1}, Run: 1}, dark},
	})
}

// P22.1: a drop is seen where it turns to be steadily shaded, unless there was
// one a moment ago; where it turns to be clear there is none.
func TestDrop(t *testing.T) {
	at := func(on bool, run, wait int) api.Eye {
		return api.Eye{Begun: true, Base: 64 * 3000, Steady: api.Steady{On: on, Run: run}, Wait: wait}
	}
	dark := func(on bool, run, wait int) api.Eye {
		e := at(on, run, wait)
		e.Shaded, e.Run = true, 1
		return e
	}
	steps(t, []step{
		{at(false, 0, 0), light(2000), dark(false, 1, 0), api.Seen{Shaded: true}},
		{at(false, 1, 0), light(2000), dark(true, 0, 4), api.Seen{Shaded: true, Drop: true}},
		{at(true, 0, 0), light(2000), dark(true, 0, 0), api.Seen{Shaded: true}},
		{at(true, 1, 0), light(2000), dark(true, 0, 0), api.Seen{Shaded: true}},
		{at(false, 1, 1), light(2000), dark(true, 0, 0), api.Seen{Shaded: true}},
		{at(false, 1, 4), light(2000), dark(true, 0, 3), api.Seen{Shaded: true}},
		{at(false, 0, 4), light(3000), at(false, 0, 3), api.Seen{}},
		{at(false, 0, 1), light(3000), at(false, 0, 0), api.Seen{}},
		{at(true, 0, 0), light(3000), at(true, 1, 0), api.Seen{}},
		{at(true, 1, 0), light(3000), at(false, 0, 0), api.Seen{}},
		{at(false, 1, 0), light(3000), at(false, 0, 0), api.Seen{}},
	})
}

// P22.1: a stream is seen from the twelfth shaded tick on, steady or not.
func TestStream(t *testing.T) {
	for run := range 30 {
		e, then := calm(), calm()
		e.Run, then.Run = run, run+1
		then.Shaded, then.Steady.Run = true, 1
		steps(t, []step{{e, light(2000), then, api.Seen{Shaded: true, Stream: run+1 >= 12}}, {e, light(3000), calm(), api.Seen{}}})
	}
}

// P22.1: a fault is seen of a mark at once, and of a light at its end in the
// fiftieth tick.
func TestFault(t *testing.T) {
	for bad := 1; bad < 32; bad++ {
		then := calm()
		then.Rail = bad % 2
		steps(t, []step{{calm(), api.Rec{Adc: 3000, Bad: bad}, then, api.Seen{Fault: true}}})
	}
	for rail := range 60 {
		e := api.Eye{Begun: true, Base: 64 * 4095, Rail: rail}
		then := e
		then.Rail = rail + 1
		steps(t, []step{
			{e, light(4095), then, api.Seen{Fault: rail+1 >= 50}},
			{e, light(4094), api.Eye{Begun: true, Base: 64*4095 - 1}, api.Seen{}},
		})
	}
	steps(t, []step{{api.Eye{Rail: 49}, light(0), api.Eye{Begun: true, Rail: 50}, api.Seen{Fault: true}}})
}

// P22.1: what else a record has is of no matter.
func TestOtherFieldsOfTheRecord(t *testing.T) {
	for _, adc := range []int{2000, 3000} {
		then, seen := wanted(calm(), light(adc))
		for _, n := range []int{math.MinInt, 0, 1, 7, math.MaxInt} {
			r := api.Rec{Adc: adc, Tilt: n, Battery: n, Encoder: n, Door: true, Key: n, Write: true}
			steps(t, []step{{calm(), r, then, seen}})
		}
	}
}

// anyNumber is a number up to most, one beside these, or any.
func anyNumber(rnd *rand.Rand, most int) int {
	switch rnd.Intn(10) {
	case 0:
		return int(rnd.Uint64()) >> rnd.Intn(63)
	case 1:
		return -rnd.Intn(500)
	case 2:
		return most + rnd.Intn(500)
	}
	return rnd.Intn(most + 1)
}

// anyEye is an eye of such numbers.
func anyEye(rnd *rand.Rand) api.Eye {
	return api.Eye{
		Begun: rnd.Intn(5) > 0, Base: anyNumber(rnd, 64*4095), Shaded: rnd.Intn(2) == 0,
		Steady: api.Steady{On: rnd.Intn(2) == 0, Run: anyNumber(rnd, 1)}, Wait: anyNumber(rnd, 4),
		Run: anyNumber(rnd, 14), Rail: anyNumber(rnd, 52),
	}
}

// P22.1: of any eye and any light it is what the chapters tell.
func TestStepIsOfItsParts(t *testing.T) {
	rnd := rand.New(rand.NewSource(221))
	for range 50000 {
		e, r := anyEye(rnd), api.Rec{Adc: anyNumber(rnd, 4095), Bad: max(rnd.Intn(96)-64, 0)}
		if rnd.Intn(2) == 0 {
			r.Adc = nearest(e.Base, 64*4095)/64 - 100*rnd.Intn(6) - rnd.Intn(3) + 1
		}
		isWanted(t, e, r)
	}
}

// P22.1: tick by tick, from nothing on.
func TestStepGoesOn(t *testing.T) {
	rnd := rand.New(rand.NewSource(222))
	for range 20 {
		e := api.Eye{}
		adc := 3000
		for range 2000 {
			switch rnd.Intn(6) {
			case 0:
				adc = rnd.Intn(4096)
			case 1, 2:
				adc = 3000 - 50*rnd.Intn(10)
			}
			r := light(adc)
			if rnd.Intn(100) == 0 {
				r.Bad = rnd.Intn(32)
			}
			isWanted(t, e, r)
			e, _ = eye.Step(e, r)
		}
	}
}

// P22.2: of each light what is seen, one behind the other, from nothing on.
func TestLook(t *testing.T) {
	rnd := rand.New(rand.NewSource(223))
	for size := range 60 {
		l, want := make([]int, size), make([]api.Seen, size)
		e := api.Eye{}
		for i := range l {
			l[i] = 3000 - 1000*rnd.Intn(2)
			if rnd.Intn(10) == 0 {
				l[i] = anyNumber(rnd, 4095)
			}
			e, want[i] = wanted(e, light(l[i]))
		}
		was := slices.Clone(l)
		if got := eye.Look(l); !slices.Equal(got, want) {
			t.Fatalf("Look(%v): %+v, want %+v", l, got, want)
		}
		if !slices.Equal(l, was) {
			t.Fatalf("changed: %v, was %v", l, was)
		}
	}
	if got := eye.Look(nil); len(got) != 0 {
		t.Errorf("of no lights: %+v", got)
	}
}

// P22.2: the records have no marks, but light at its end is at its end.
func TestLookOfNoLight(t *testing.T) {
	for _, adc := range []int{math.MinInt, -1, 0, 4095, 4096, math.MaxInt} {
		for i, seen := range eye.Look(slices.Repeat([]int{adc}, 80)) {
			if seen.Fault != (i >= 49) {
				t.Fatalf("%d for %d ticks: %+v", adc, i+1, seen)
			}
		}
	}
}

// P22.3: each dip that is dark, between times that are clear, is one drop, in its
// second tick; a dip of one tick is none, and one of twelve is a stream, too.
func TestDipsAreDrops(t *testing.T) {
	for _, bright := range []int{401, 1000, 3000, 4095} {
		for dip := 1; dip <= 30; dip++ {
			for gap := 3; gap <= 8; gap++ {
				all := eye.Look(lights(bright, bright-400, gap, dip, gap, dip, gap))
				want := []int{}
				if dip >= 2 {
					want = []int{gap + 1, 2*gap + dip + 1}
				}
				if got := dropsOf(all); !slices.Equal(got, want) {
					t.Fatalf("at %d, %d ticks, %d apart: drops at %v, want %v", bright, dip, gap, got, want)
				}
				for i, seen := range all {
					if stream := dip >= 12 && (i >= gap+11 && i < gap+dip || i >= 2*gap+dip+11 && i < 2*(gap+dip)); seen.Stream != stream {
						t.Fatalf("at %d, %d ticks, %d apart: stream %v at %d", bright, dip, gap, seen.Stream, i)
					}
				}
			}
		}
	}
}

// P22.3: also where the light is not quite the same in each tick.
func TestDipsInUnsteadyLight(t *testing.T) {
	rnd := rand.New(rand.NewSource(224))
	for range 300 {
		bright, l, want := 1000+rnd.Intn(3000), []int{}, []int{}
		add := func(ticks, from int) {
			for range ticks {
				l = append(l, from+rnd.Intn(51))
			}
		}
		for range 20 {
			add(5+rnd.Intn(40), bright)
			want = append(want, len(l)+1)
			add(2+rnd.Intn(10), bright-500-rnd.Intn(400))
		}
		add(5, bright)
		all := eye.Look(l)
		if got := dropsOf(all); !slices.Equal(got, want) {
			t.Fatalf("%v: drops at %v, want %v", l, got, want)
		}
		if slices.ContainsFunc(all, func(s api.Seen) bool { return s.Stream || s.Fault }) {
			t.Fatalf("%v: a stream, or a fault", l)
		}
	}
}

// P22.4: light that changes slowly, up and down, makes no drop; light that falls
// faster does.
func TestSlowLightMakesNoDrop(t *testing.T) {
	rnd := rand.New(rand.NewSource(225))
	for range 50 {
		adc, l := rnd.Intn(4096), []int{}
		for range 100 {
			slope := rnd.Intn(13) - 6
			for range rnd.Intn(400) {
				adc = nearest(adc+slope, 4095)
				l = append(l, adc)
			}
		}
		if got := dropsOf(eye.Look(l)); len(got) != 0 {
			t.Fatalf("drops at %v", got)
		}
	}
	fast := []int{}
	for adc := 4000; adc > 0; adc -= 40 {
		fast = append(fast, adc)
	}
	if len(dropsOf(eye.Look(fast))) == 0 {
		t.Errorf("no drop in light that falls fast")
	}
}

// P22.5: two drops are five ticks apart at the least, whatever the light; of
// dips that are four ticks apart each second one counts.
func TestDropsAreApart(t *testing.T) {
	rnd := rand.New(rand.NewSource(226))
	closest := math.MaxInt
	for range 300 {
		l := make([]int, 300)
		for i := range l {
			l[i] = 3000 - 1000*rnd.Intn(2)
		}
		last := -100
		for _, at := range dropsOf(eye.Look(l)) {
			closest = min(closest, at-last)
			last = at
		}
	}
	if closest != 5 {
		t.Errorf("two drops are %d ticks apart", closest)
	}
	if got := dropsOf(eye.Look(lights(3000, 2000, 2, 2, 2, 2, 2, 2, 2, 2))); !slices.Equal(got, []int{3, 11}) {
		t.Errorf("drops at %v", got)
	}
}

// R3 and R4: nothing is kept from call to call, and an answer is new memory.
func TestNothingIsKept(t *testing.T) {
	l := lights(3000, 2000, 3, 4, 3)
	once := eye.Look(l)
	was := slices.Clone(once)
	again := eye.Look(l)
	again[3], again[4] = api.Seen{}, api.Seen{}
	if !slices.Equal(once, was) || !slices.Equal(eye.Look(l), was) {
		t.Errorf("%+v, was %+v", once, was)
	}
	for range 3 {
		isWanted(t, calm(), light(2000))
		isWanted(t, api.Eye{}, light(100))
	}
}

// The chapter's example: a drop in the third tick.
func TestExample(t *testing.T) {
	want := []api.Seen{{}, {Shaded: true}, {Drop: true, Shaded: true}, {}, {}}
	if got := eye.Look([]int{3000, 2000, 2000, 3000, 3000}); !slices.Equal(got, want) {
		t.Errorf("%+v", got)
	}
}
