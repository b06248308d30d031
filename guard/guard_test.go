package guard_test

import (
	"math"
	"math/rand"
	"reflect"
	"testing"

	"pinchcock/api"
	"pinchcock/guard"
)

// The hazards, and all of them together.
const (
	stream = 1 << iota
	free
	over
	under
	loss
	empty
	tilt
	door
	battery
	stall
	sensor
	overflow
	all = 1<<iota - 1
)

// The modes.
const (
	idle = 1 + iota
	priming
	running
	paused
	kvo
	done
	fault
)

// long is the greatest count of ticks.
const long = 1 << 40

// of is a programme of 100 millilitres.
func of(rate, set int) api.Programme {
	return api.Programme{Rate: rate, Vtbi: 100, Set: set}
}

// within is n from low to high.
func within(n, low, high int) int {
	return min(max(n, low), high)
}

// times is a product, no further than Top.
func times(n, k int) int {
	n = within(n, -api.Top, api.Top)
	if max(n, -n) > api.Top/k {
		return within(n, -1, 1) * api.Top
	}
	return n * k
}

// armed is what Arm is to tell.
func armed(mode int) int {
	hazards := battery + stall + sensor + overflow
	infuses := mode == running || mode == kvo
	if infuses {
		hazards += stream + under + loss + empty
	}
	if mode == running {
		hazards += over
	}
	if infuses || mode == priming {
		hazards += tilt + door
	}
	if infuses || mode == paused || mode == done || mode == fault {
		hazards += free
	}
	return hazards
}

// paced is the pace of a programme in a mode.
func paced(mode int, p api.Programme) int {
	if mode == kvo && p.Rate > 5 {
		return 5
	}
	return p.Rate
}

// wantedGoal is what Goal is to tell.
func wantedGoal(mode int, p api.Programme) int {
	if mode != running && mode != kvo {
		return 0
	}
	return 1000 * within(paced(mode, p), 0, 1000)
}

// hourly is how many drops an hour has, and whether there is such a pace.
func hourly(rate, set int) (int, bool) {
	known := set == 10 || set == 15 || set == 20 || set == 60
	return rate * set, known && rate >= 1 && rate <= 1000
}

// more is one more than it was, where it is so.
func more(was int, so bool) int {
	if !so {
		return 0
	}
	return within(was, 0, long) + 1
}

// wantedDrift is the drift that is to be.
func wantedDrift(d api.Drift, k api.Look) api.Drift {
	goal := wantedGoal(k.Mode, k.Prog)
	switch {
	case k.Mode != running && k.Mode != kvo:
		return api.Drift{}
	case !k.Seen.Drop:
		return d
	case !k.Known:
		return api.Drift{}
	}
	return api.Drift{Over: more(d.Over, times(k.Rate, 2) > 3*goal), Under: more(d.Under, times(k.Rate, 2) < goal)}
}

// wantedLoss is the loss that is to be.
func wantedLoss(l api.Loss, k api.Look) api.Loss {
	if k.Mode != running && k.Mode != kvo {
		return api.Loss{}
	}
	wide := k.Out >= 300 && times(k.Rate, 2) < wantedGoal(k.Mode, k.Prog)
	return api.Loss{Since: more(l.Since, !k.Seen.Drop), Wide: more(l.Wide, wide)}
}

// wantedDrops are the drops that are to be.
func wantedDrops(l []int, k api.Look, limit int) []int {
	if !k.Seen.Drop {
		return l[max(len(l)-512, 0):]
	}
	near := []int{}
	for _, at := range l {
		if at > k.Tick-6000 && at <= k.Tick {
			near = append(near, at)
		}
	}
	near = append(near, k.Tick)
	return near[max(len(near)-within(limit, 0, 511)-1, 0):]
}

// many is how many of the drops are in the minute up to a tick.
func many(l []int, tick int) int {
	n := 0
	for _, at := range l {
		if at > tick-6000 && at <= tick {
			n++
		}
	}
	return n
}

// wanted is what Step is to tell, by the chapters, written out.
func wanted(g api.Guard, k api.Look) (api.Guard, int) {
	limit := 0
	drops, paceable := hourly(k.Prog.Rate, k.Prog.Set)
	if paceable {
		limit = drops/60 + 8
	}
	next := api.Guard{
		Drift:   wantedDrift(g.Drift, k),
		Loss:    wantedLoss(g.Loss, k),
		Posture: api.Posture{Tilt: more(g.Posture.Tilt, k.Rec.Tilt > 30), Battery: more(g.Posture.Battery, k.Rec.Battery < 3300)},
		Drops:   wantedDrops(g.Drops, k, limit),
	}
	lost := false
	if often, ok := hourly(paced(k.Mode, k.Prog), k.Prog.Set); ok {
		lost = next.Loss.Since >= 4*360000/often+50
	}
	held := 0
	for n, so := range []bool{
		k.Seen.Stream, paceable && many(next.Drops, k.Tick) > min(limit, 511), next.Drift.Over >= 5, next.Drift.Under >= 5, lost, next.Loss.Wide >= 500,
		next.Posture.Tilt >= 20, k.Rec.Door, next.Posture.Battery >= 20, k.Stalled, k.Seen.Fault, k.Overflow,
	} {
		if so {
			held += 1 << n
		}
	}
	next.Latch = g.Latch & all
	if k.Ack {
		next.Latch &= held
	}
	next.Latch |= held & armed(k.Mode)
	return next, held
}

// same is whether two guards are the same, nil and empty lists being so.
func same(a, b api.Guard) bool {
	if len(a.Drops) == 0 && len(b.Drops) == 0 {
		a.Drops, b.Drops = nil, nil
	}
	return reflect.DeepEqual(a, b)
}

// step runs Step, and holds it against what is wanted.
func step(t *testing.T, g api.Guard, k api.Look) (api.Guard, int) {
	t.Helper()
	next, held := wanted(g, k)
	got, gotHeld := guard.Step(g, k)
	if !same(got, next) || gotHeld != held {
		t.Fatalf("Step(%+v, %+v): %+v, %d, want %+v, %d", g, k, got, gotHeld, next, held)
	}
	return got, gotHeld
}

// look is one at a tick at which nothing is wrong.
func look(tick, mode int, p api.Programme) api.Look {
	return api.Look{Tick: tick, Mode: mode, Prog: p, Rec: api.Rec{Adc: 3000, Battery: 5000}, Rate: 1000 * p.Rate, Known: true, Out: 50}
}

// P35.1: mode by mode.
func TestArm(t *testing.T) {
	rows := []struct{ mode, hazards int }{
		{idle, 3840}, {priming, 3840 + 64 + 128}, {running, 4095}, {paused, 3840 + 2}, {kvo, 4095 - 4}, {done, 3840 + 2}, {fault, 3840 + 2},
		{0, 3840}, {8, 3840}, {-1, 3840}, {-3, 3840}, {1<<32 + 3, 3840}, {256 + 3, 3840}, {math.MinInt, 3840}, {math.MaxInt, 3840},
	}
	for _, r := range rows {
		if got := guard.Arm(r.mode); got != r.hazards || got != armed(r.mode) {
			t.Errorf("Arm(%d): %d, want %d", r.mode, got, r.hazards)
		}
	}
}

// P35.2: the programme's rate, at most 5 in ModeKvo, and 0 where it does not
// infuse.
func TestGoal(t *testing.T) {
	rows := []struct{ mode, rate, goal int }{
		{running, 60, 60000}, {running, 1, 1000}, {running, 0, 0}, {running, -1, 0}, {running, 999, 999000}, {running, 1000, 1000000}, {running, 1001, 1000000}, {running, math.MaxInt, 1000000}, {running, math.MinInt, 0}, {running, 5, 5000}, {running, 6, 6000},
		{kvo, 60, 5000}, {kvo, 6, 5000}, {kvo, 5, 5000}, {kvo, 4, 4000}, {kvo, 1, 1000}, {kvo, 0, 0}, {kvo, -1, 0}, {kvo, math.MaxInt, 5000}, {kvo, math.MinInt, 0},
	}
	for _, r := range rows {
		for _, p := range []api.Programme{of(r.rate, 20), {Rate: r.rate}, {Rate: r.rate, Vtbi: -1, Set: 7}} {
			if got := guard.Goal(r.mode, p); got != r.goal {
				t.Errorf("Goal(%d, %+v): %d, want %d", r.mode, p, got, r.goal)
			}
		}
	}
	for _, mode := range []int{math.MinInt, -1, 0, idle, priming, paused, done, fault, 8, 1<<32 + 3, math.MaxInt} {
		for _, rate := range []int{0, 5, 60, 1000, math.MaxInt} {
			if got := guard.Goal(mode, of(rate, 20)); got != 0 {
				t.Errorf("Goal(%d, %d): %d", mode, rate, got)
			}
		}
	}
}

// P35.3: the posture and the latch, and nothing else.
func TestFresh(t *testing.T) {
	for _, p := range []api.Posture{{}, {Tilt: 7, Battery: 9}, {Tilt: 20}, {Battery: 20}} {
		for _, latch := range []int{0, 2, 192, all} {
			want := api.Guard{Posture: p, Latch: latch}
			for _, g := range []api.Guard{want, {Drift: api.Drift{Over: 4, Under: 5}, Loss: api.Loss{Since: 70, Wide: 80}, Posture: p, Drops: []int{1, 2}, Latch: latch}} {
				if got := guard.Fresh(g); !same(got, want) {
					t.Errorf("Fresh(%+v): %+v", g, got)
				}
			}
		}
	}
}

// row is one of Step: what is changed of a look at which nothing is wrong, what
// is held, and what is latched.
type row struct {
	name   string
	change func(g *api.Guard, k *api.Look)
	held   int
}

// rows are hazards that come in this tick, and such as do not yet.
var rows = []row{
	{"nothing", func(g *api.Guard, k *api.Look) {}, 0},
	{"a stream", func(g *api.Guard, k *api.Look) { k.Seen.Stream = true }, stream},
	{"a shaded beam", func(g *api.Guard, k *api.Look) { k.Seen.Shaded = true }, 0},
	{"29 drops in a minute", func(g *api.Guard, k *api.Look) { g.Drops, k.Seen.Drop = each(72, 99), true }, free},
	{"28 drops in a minute", func(g *api.Guard, k *api.Look) { g.Drops, k.Seen.Drop = each(73, 99), true }, 0},
	{"29 drops, and none now", func(g *api.Guard, k *api.Look) { g.Drops = each(71, 99) }, free},
	{"28 drops, and none now", func(g *api.Guard, k *api.Look) { g.Drops = each(72, 99) }, 0},
	{"29 drops without a set", func(g *api.Guard, k *api.Look) { g.Drops, k.Prog.Set = each(70, 99), 7 }, 0},
	{"29 drops without a rate", func(g *api.Guard, k *api.Look) { g.Drops, k.Prog.Rate, k.Rate = each(70, 99), 0, 0 }, 0},
	{"the fifth one too fast", func(g *api.Guard, k *api.Look) { g.Drift.Over, k.Seen.Drop, k.Rate = 4, true, 90001 }, over},
	{"the fifth one fast", func(g *api.Guard, k *api.Look) { g.Drift.Over, k.Seen.Drop, k.Rate = 4, true, 90000 }, 0},
	{"the fourth one too fast", func(g *api.Guard, k *api.Look) { g.Drift.Over, k.Seen.Drop, k.Rate = 3, true, 90001 }, 0},
	{"five too fast, and none now", func(g *api.Guard, k *api.Look) { g.Drift.Over = 5 }, over},
	{"the fifth one not known", func(g *api.Guard, k *api.Look) { g.Drift.Over, k.Seen.Drop, k.Rate, k.Known = 5, true, 90001, false }, 0},
	{"the fifth one too slow", func(g *api.Guard, k *api.Look) { g.Drift.Under, k.Seen.Drop, k.Rate = 4, true, 29999 }, under},
	{"the fifth one slow", func(g *api.Guard, k *api.Look) { g.Drift.Under, k.Seen.Drop, k.Rate = 4, true, 30000 }, 0},
	{"1250 ticks without a drop", func(g *api.Guard, k *api.Look) { g.Loss.Since = 1249 }, loss},
	{"1249 ticks without a drop", func(g *api.Guard, k *api.Look) { g.Loss.Since = 1248 }, 0},
	{"a drop in the last tick", func(g *api.Guard, k *api.Look) { g.Loss.Since, k.Seen.Drop = 1249, true }, 0},
	{"no drop and no set", func(g *api.Guard, k *api.Look) { g.Loss.Since, k.Prog.Set = 9999, 7 }, 0},
	{"500 ticks wide open", func(g *api.Guard, k *api.Look) { g.Loss.Wide, k.Out, k.Rate = 499, 300, 29999 }, empty},
	{"499 ticks wide open", func(g *api.Guard, k *api.Look) { g.Loss.Wide, k.Out, k.Rate = 498, 300, 29999 }, 0},
	{"500 ticks, not quite open", func(g *api.Guard, k *api.Look) { g.Loss.Wide, k.Out, k.Rate = 499, 299, 29999 }, 0},
	{"500 ticks, and enough flows", func(g *api.Guard, k *api.Look) { g.Loss.Wide, k.Out, k.Rate = 499, 300, 30000 }, 0},
	{"500 ticks, wider than it can", func(g *api.Guard, k *api.Look) { g.Loss.Wide, k.Out, k.Rate, k.Known = 499, 301, 0, false }, empty},
	{"20 ticks tilted", func(g *api.Guard, k *api.Look) { g.Posture.Tilt, k.Rec.Tilt = 19, 31 }, tilt},
	{"19 ticks tilted", func(g *api.Guard, k *api.Look) { g.Posture.Tilt, k.Rec.Tilt = 18, 31 }, 0},
	{"20 ticks leaning", func(g *api.Guard, k *api.Look) { g.Posture.Tilt, k.Rec.Tilt = 19, 30 }, 0},
	{"the door", func(g *api.Guard, k *api.Look) { k.Rec.Door = true }, door},
	{"20 ticks flat", func(g *api.Guard, k *api.Look) { g.Posture.Battery, k.Rec.Battery = 19, 3299 }, battery},
	{"19 ticks flat", func(g *api.Guard, k *api.Look) { g.Posture.Battery, k.Rec.Battery = 18, 3299 }, 0},
	{"20 ticks low", func(g *api.Guard, k *api.Look) { g.Posture.Battery, k.Rec.Battery = 19, 3300 }, 0},
	{"stalled", func(g *api.Guard, k *api.Look) { k.Stalled = true }, stall},
	{"a fault of the eye", func(g *api.Guard, k *api.Look) { k.Seen.Fault = true }, sensor},
	{"a mark without a fault", func(g *api.Guard, k *api.Look) { k.Rec.Bad = 31 }, 0},
	{"an overflow", func(g *api.Guard, k *api.Look) { k.Overflow = true }, overflow},
	{"all that can be told at once", func(g *api.Guard, k *api.Look) {
		k.Seen.Stream, k.Rec.Door, k.Stalled, k.Seen.Fault, k.Overflow = true, true, true, true, true
	}, stream + door + stall + sensor + overflow},
}

// each are the numbers from low to high.
func each(low, high int) []int {
	l := []int{}
	for n := low; n <= high; n++ {
		l = append(l, n)
	}
	return l
}

// P35.4: in ModeRunning each hazard is held, and latched, in its tick, and by
// nothing else; whether it is acknowledged or not.
func TestStepOfEachHazard(t *testing.T) {
	for _, r := range rows {
		for _, ack := range []bool{false, true} {
			g, k := api.Guard{}, look(100, running, of(60, 20))
			r.change(&g, &k)
			k.Ack = ack
			next, held := step(t, g, k)
			if held != r.held || next.Latch != r.held {
				t.Errorf("%s: held %d, latched %d, want %d", r.name, held, next.Latch, r.held)
			}
		}
	}
}

// P35.4: in the other modes what is held is latched if it is armed, beside what
// was.
func TestStepInEachMode(t *testing.T) {
	for mode := -1; mode <= 9; mode++ {
		for _, r := range rows {
			for _, latch := range []int{0, 2, 4, 192, 2048, all, -1, 4096 + 8, math.MinInt} {
				for _, ack := range []bool{false, true} {
					g, k := api.Guard{Latch: latch}, look(100, mode, of(60, 20))
					r.change(&g, &k)
					k.Ack = ack
					next, held := step(t, g, k)
					want := latch & all
					if ack {
						want &= held
					}
					if want |= held & armed(mode); next.Latch != want {
						t.Fatalf("%s in mode %d: %d, want %d", r.name, mode, next.Latch, want)
					}
				}
			}
		}
	}
}

// P35.4: its parts, as rows of numbers.
func TestStepOfItsParts(t *testing.T) {
	g := api.Guard{Drift: api.Drift{Over: 2, Under: 3}, Loss: api.Loss{Since: 7, Wide: 8}, Posture: api.Posture{Tilt: 4, Battery: 5}, Drops: []int{10, 20, 95}}
	k := look(100, running, of(60, 20))
	k.Rec.Tilt, k.Rec.Battery, k.Out, k.Rate = 90, 3000, 300, 20000
	next, held := step(t, g, k)
	if want := (api.Guard{Drift: g.Drift, Loss: api.Loss{Since: 8, Wide: 9}, Posture: api.Posture{Tilt: 5, Battery: 6}, Drops: g.Drops}); !same(next, want) || held != 0 {
		t.Errorf("without a drop: %+v, %d", next, held)
	}
	k.Seen.Drop = true
	next, held = step(t, g, k)
	if want := (api.Guard{Drift: api.Drift{Under: 4}, Loss: api.Loss{Wide: 9}, Posture: api.Posture{Tilt: 5, Battery: 6}, Drops: []int{10, 20, 95, 100}}); !same(next, want) || held != 0 {
		t.Errorf("with one: %+v, %d", next, held)
	}
	k.Mode = paused
	next, held = step(t, g, k)
	if want := (api.Guard{Posture: api.Posture{Tilt: 5, Battery: 6}, Drops: []int{10, 20, 95, 100}}); !same(next, want) || held != 0 {
		t.Errorf("paused: %+v, %d", next, held)
	}
	k.Prog.Set = 7
	next, held = step(t, g, k)
	if want := (api.Guard{Posture: api.Posture{Tilt: 5, Battery: 6}, Drops: []int{100}}); !same(next, want) || held != 0 {
		t.Errorf("without a limit: %+v, %d", next, held)
	}
}

// P35.4: the pace of ModeKvo has another timeout, and another goal; the limit is
// that of the programme.
func TestStepInKvo(t *testing.T) {
	g, k := api.Guard{Loss: api.Loss{Since: 14448}}, look(20000, kvo, of(60, 20))
	if _, held := step(t, g, k); held != 0 {
		t.Errorf("14449 ticks without a drop: %d", held)
	}
	g.Loss.Since = 14449
	if next, held := step(t, g, k); held != loss || next.Latch != loss {
		t.Errorf("14450 ticks without a drop: %d, %+v", held, next)
	}
	g, k = api.Guard{Drift: api.Drift{Over: 4}, Drops: each(19973, 19999)}, look(20000, kvo, of(60, 20))
	k.Seen.Drop, k.Rate = true, 7501
	if next, held := step(t, g, k); held != over || next.Latch != 0 {
		t.Errorf("too fast, and not armed: %d, %+v", held, next)
	}
	g.Drops, k.Rate = each(19972, 19999), 7500
	if next, held := step(t, g, k); held != free || next.Latch != free {
		t.Errorf("29 drops: %d, %+v", held, next)
	}
	k.Prog.Rate, k.Prog.Set, k.Rate = 3, 10, 3000
	g = api.Guard{Loss: api.Loss{Since: 48048}}
	k.Seen.Drop = false
	if _, held := step(t, g, k); held != 0 {
		t.Errorf("48049 ticks of the slowest: %d", held)
	}
	g.Loss.Since++
	if _, held := step(t, g, k); held != loss {
		t.Errorf("48050 ticks of the slowest: %d", held)
	}
}

// anyRate is one of a programme, some of them none.
func anyRate(rnd *rand.Rand) int {
	if rnd.Intn(6) == 0 {
		return []int{math.MinInt, -1, 0, 1, 2, 4, 1000, 1001, math.MaxInt}[rnd.Intn(9)]
	}
	return 5 + rnd.Intn(496)
}

// anyLook is a look of any kind.
func anyLook(rnd *rand.Rand, tick int) api.Look {
	coin := func(n int) bool { return rnd.Intn(n) == 0 }
	k := look(tick, rnd.Intn(9), of(anyRate(rnd), []int{10, 15, 20, 60, 7}[rnd.Intn(5)]))
	k.Seen = api.Seen{Drop: coin(2), Shaded: coin(2), Stream: coin(5), Fault: coin(5)}
	k.Rec = api.Rec{Tilt: rnd.Intn(60), Battery: 3000 + rnd.Intn(600), Door: coin(5), Bad: rnd.Intn(32)}
	k.Rate, k.Known, k.Out = rnd.Intn(1000000), coin(2), 299+rnd.Intn(3)
	if coin(10) {
		k.Rate = int(rnd.Uint64()) >> rnd.Intn(64)
	}
	if coin(10) {
		k.Rec.Tilt, k.Rec.Battery, k.Out = int(rnd.Uint64())>>rnd.Intn(64), int(rnd.Uint64())>>rnd.Intn(64), int(rnd.Uint64())>>rnd.Intn(64)
	}
	k.Stalled, k.Overflow, k.Ack = coin(5), coin(5), coin(3)
	return k
}

// P35.4: of any guard and any look.
func TestAnyGuard(t *testing.T) {
	rnd := rand.New(rand.NewSource(354))
	count := func(about int) int {
		if rnd.Intn(12) == 0 {
			return int(rnd.Uint64()) >> rnd.Intn(64)
		}
		return about + rnd.Intn(4) - 2
	}
	for range 50000 {
		tick := rnd.Intn(20000)
		k := anyLook(rnd, tick)
		first := tick - rnd.Intn(6100)
		g := api.Guard{
			Drift:   api.Drift{Over: count(4), Under: count(4)},
			Loss:    api.Loss{Since: count([]int{1250, 14450, 200, 100}[rnd.Intn(4)]), Wide: count(500)},
			Posture: api.Posture{Tilt: count(19), Battery: count(19)},
			Drops:   each(first, first+rnd.Intn(60)),
			Latch:   rnd.Intn(all + 1),
		}
		step(t, g, k)
	}
}

// P35.5: what is held and armed is latched in that very tick, and stays till it
// is acknowledged when it is not held; nothing else is ever latched.
func TestWhatIsHeldIsLatched(t *testing.T) {
	rnd := rand.New(rand.NewSource(355))
	g, latched := api.Guard{}, 0
	for tick := range 20000 {
		k := anyLook(rnd, tick)
		k.Mode, k.Ack = 1+tick/50%7, rnd.Intn(20) == 0
		next, held := step(t, g, k)
		if k.Ack {
			latched &= held
		}
		if latched |= held & armed(k.Mode); next.Latch != latched {
			t.Fatalf("tick %d: %d, want %d", tick, next.Latch, latched)
		}
		g = next
	}
}

// P35.6: more drops in a minute than the limit are latched with the drop that is
// one too many, of all that ever fell.
func TestADropTooMany(t *testing.T) {
	rnd := rand.New(rand.NewSource(356))
	for _, p := range []api.Programme{of(60, 20), of(5, 10), of(300, 60), of(500, 60), of(1000, 20)} {
		limit := p.Rate*p.Set/60 + 8
		g, all, latched := api.Guard{}, []int{}, false
		for tick := 1; tick <= 30000; tick++ {
			k := look(tick, []int{running, paused, kvo, done, fault}[tick/10%5], p)
			k.Seen.Drop = rnd.Intn(6000/limit+1) == 0 || tick > 20000 && tick%10 == 0
			if k.Seen.Drop {
				all = append(all, tick)
			}
			latched = latched || many(all[max(len(all)-1000, 0):], tick) > limit
			g, _ = guard.Step(g, k)
			if got := g.Latch&free != 0; got != latched {
				t.Fatalf("%+v, tick %d: %v", p, tick, got)
			}
		}
		if !latched {
			t.Fatalf("%+v: never too many", p)
		}
	}
}

// P35.6: no drop for the timeout is latched in its last tick.
func TestNoDropForTheTimeout(t *testing.T) {
	for _, mode := range []int{running, kvo} {
		for _, p := range []api.Programme{of(60, 20), of(5, 10), of(7, 15), of(500, 60), of(4, 20)} {
			timeout := 4*360000/(paced(mode, p)*p.Set) + 50
			for _, drop := range []int{0, 1, 60} {
				g := api.Guard{}
				for tick := 1; tick <= drop+timeout; tick++ {
					k := look(tick, mode, p)
					k.Seen.Drop = tick == drop
					g, _ = guard.Step(g, k)
					if got := g.Latch == loss; got != (tick == drop+timeout) || g.Latch&^loss != 0 {
						t.Fatalf("mode %d, %+v, a drop at %d: %d at %d", mode, p, drop, g.Latch, tick)
					}
				}
			}
		}
	}
}

// R3: what is handed in is not changed, nor what lies behind a list's end, and
// what is answered is new memory.
func TestMemory(t *testing.T) {
	for _, drop := range []bool{false, true} {
		room := []int{97, 98, 99, 7, 8}
		g, k := api.Guard{Drops: room[:3]}, look(100, running, of(60, 20))
		k.Seen.Drop = drop
		next, _ := step(t, g, k)
		for n := range next.Drops {
			next.Drops[n] = 5
		}
		if !reflect.DeepEqual(room, []int{97, 98, 99, 7, 8}) {
			t.Fatalf("drop %v: %v", drop, room)
		}
	}
}

// The chapter's example: a door that is opened while it runs, and while it is
// idle.
func TestExample(t *testing.T) {
	for _, r := range []struct{ mode, latch int }{{running, door}, {idle, 0}} {
		k := look(100, r.mode, of(60, 20))
		k.Rec.Door = true
		next, held := step(t, api.Guard{}, k)
		if next.Latch != r.latch || held != door {
			t.Errorf("mode %d: %d, %d", r.mode, next.Latch, held)
		}
	}
}
