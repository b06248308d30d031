package bench_test

import (
	"math"
	"reflect"
	"testing"

	"pinchcock/api"
	"pinchcock/bench"
	"pinchcock/clamp"
	"pinchcock/console"
	"pinchcock/dropset"
	"pinchcock/journal"
	"pinchcock/plant"
	"pinchcock/programme"
	"pinchcock/total"
)

// plans are programmes, slow and fast, of each set.
var plans = []api.Programme{
	{Rate: 60, Vtbi: 100, Set: 20}, {Rate: 500, Vtbi: 1, Set: 10}, {Rate: 500, Vtbi: 10, Set: 60}, {Rate: 300, Vtbi: 2, Set: 10}, {Rate: 1000, Vtbi: 5, Set: 15},
	{Rate: 5, Vtbi: 1, Set: 60}, {Rate: 60, Vtbi: 1, Set: 60}, {Rate: 1000, Vtbi: 5000, Set: 20}, {Rate: 125, Vtbi: 3, Set: 15},
}

// odd are programmes that may not be, and what is wrong with them.
var odd = []struct {
	p     api.Programme
	wrong api.Errno
}{
	{api.Programme{}, api.ErrSet}, {api.Programme{Rate: 60, Vtbi: 100, Set: 30}, api.ErrSet}, {api.Programme{Rate: 4, Vtbi: 100, Set: 20}, api.ErrRate}, {api.Programme{Rate: 1000, Vtbi: 100, Set: 60}, api.ErrRate},
	{api.Programme{Rate: 60, Vtbi: 0, Set: 20}, api.ErrVolume}, {api.Programme{Rate: 60, Vtbi: 5001, Set: 20}, api.ErrVolume}, {api.Programme{Rate: 4, Vtbi: 0, Set: 9}, api.ErrSet},
	{api.Programme{Rate: math.MaxInt, Vtbi: math.MinInt, Set: 20}, api.ErrRate},
}

// is is what is expected.
func is(t *testing.T, what string, got, want any) {
	t.Helper()
	if !reflect.DeepEqual(got, want) {
		t.Fatalf("%s: %+v, want %+v", what, got, want)
	}
}

// begun is the state that Begin tells of a programme that may be.
func begun(t *testing.T, p api.Programme) api.State {
	t.Helper()
	s, wrong := bench.Begin(p)
	if wrong != api.OK {
		t.Fatalf("%+v: %d", p, wrong)
	}
	return s
}

// P49.1: it has come up with the programme, paused.
func TestBegin(t *testing.T) {
	for _, p := range plans {
		entry, ok := journal.Put(api.Entry{Seq: 1, Mode: api.ModePaused, Prog: p, Total: api.Total{Set: p.Set}})
		if !ok {
			t.Fatal("no entry")
		}
		s := begun(t, p)
		is(t, "the state", s, console.Boot(api.Flash{Slots: [2]string{entry, ""}}))
		is(t, "its parts", []any{s.Mode, s.Prog, s.Total, s.Seq, s.Slot, s.Notes, s.Pad.Draft}, []any{api.ModePaused, p, api.Total{Set: p.Set}, 1, 0, 0, p})
	}
	for _, r := range odd {
		s, wrong := bench.Begin(r.p)
		is(t, "what is wrong", wrong, r.wrong)
		is(t, "beside it", s, api.State{})
	}
}

// wanted is what Step is to tell, by the chapter.
func wanted(s api.State, p api.Plant, head, tick int) (api.State, api.Plant) {
	pos := s.Clamp.Motor.Pos
	raw := api.Raw{Battery: 4000, Encoder: float64(pos), Write: true, Key: map[int]int{340: api.KeyStart, 341: api.KeyConfirm}[tick]}
	if tick < 330 {
		pos = 0
	}
	next, light := plant.Step(p, pos, head, s.Prog.Set)
	raw.Adc = float64(light)
	s, _ = console.Tick(s, raw)
	return s, next
}

// P49.2: tick by tick, at several heights.
func TestStep(t *testing.T) {
	for _, p := range plans {
		for _, head := range []int{-5, 128, 256, 2000} {
			s, a := begun(t, p), api.Plant{Left: 30}
			w, b := s, a
			for tick := range 2500 {
				s, a = bench.Step(s, a, head, tick)
				w, b = wanted(w, b, head, tick)
				if a != b || !reflect.DeepEqual(s, w) {
					t.Fatalf("%+v, head %d, tick %d: %+v and %+v, want %+v and %+v", p, head, tick, s, a, w, b)
				}
			}
		}
	}
}

// P49.2: ticks are what the caller says, whatever the state has counted.
func TestStepAtAnyTick(t *testing.T) {
	for _, tick := range []int{math.MinInt, -1, 0, 329, 330, 339, 340, 341, 342, 20000, math.MaxInt} {
		s, a := begun(t, plans[0]), api.Plant{Left: 30}
		s.Pad.Ask = true
		got, p := bench.Step(s, a, 256, tick)
		w, b := wanted(s, a, 256, tick)
		is(t, "the state", got, w)
		is(t, "the plant", p, b)
		is(t, "whether it flows", p.Part > 0, tick >= 330)
		is(t, "whether it runs", got.Mode == api.ModeRunning, tick == 341)
	}
}

// P49.3: what came of it, against as many steps.
func TestRun(t *testing.T) {
	for _, p := range plans {
		for _, head := range []int{200, 256, 512} {
			for _, bag := range []int{7, 1000} {
				s, a := begun(t, p), api.Plant{Left: bag}
				for tick := range 3001 {
					if tick%600 == 0 || tick == 341 || tick == 342 {
						volume, _ := total.Volume(s.Total)
						want := api.Report{Mode: s.Mode, Latch: s.Guard.Latch, Volume: volume, Fell: a.Fell, Left: a.Left, Pos: s.Clamp.Motor.Pos}
						got, wrong := bench.Run(p, head, bag, tick)
						is(t, "what is wrong", wrong, api.OK)
						is(t, "what came of it", got, want)
					}
					s, a = bench.Step(s, a, head, tick)
				}
			}
		}
	}
}

// P49.3: what may not be, and numbers that count as others.
func TestRunOfOddNumbers(t *testing.T) {
	for _, r := range odd {
		got, wrong := bench.Run(r.p, 256, 100, 1000)
		is(t, "what is wrong", wrong, r.wrong)
		is(t, "beside it", got, api.Report{})
	}
	p := plans[1]
	run := func(head, bag, ticks int) api.Report {
		got, wrong := bench.Run(p, head, bag, ticks)
		is(t, "what is wrong", wrong, api.OK)
		return got
	}
	start := api.Report{Mode: api.ModePaused, Left: 100, Pos: 300}
	for _, ticks := range []int{math.MinInt, -1, 0} {
		is(t, "no ticks", run(256, 100, ticks), start)
	}
	is(t, "the last tick that counts", run(256, 100, 20000), run(256, 100, 20001))
	is(t, "many ticks", run(256, 100, 20000), run(256, 100, math.MaxInt))
	for _, bag := range []int{math.MinInt, -1} {
		is(t, "no bag", run(256, bag, 1500), run(256, 0, 1500))
	}
	is(t, "a bag without a drop", run(256, 0, 400), api.Report{Mode: api.ModeRunning, Pos: run(256, 100, 400).Pos})
	is(t, "a bag of one drop", run(256, 1, 0).Left, 1)
	is(t, "a bag that never ends", run(256, math.MaxInt, 1500).Left, math.MaxInt-run(256, math.MaxInt, 1500).Fell)
	is(t, "no height", run(math.MinInt, 100, 1500), run(0, 100, 1500))
	is(t, "the greatest height", run(math.MaxInt, 100, 1500), run(1024, 100, 1500))
}

// P49.4: at a height up to 256 the volume is that of the drops that fell, but for
// the one of the last tick.
func TestNotADropIsLost(t *testing.T) {
	fell := 0
	for _, p := range plans {
		for _, head := range []int{0, 64, 128, 200, 230, 256} {
			s, a := begun(t, p), api.Plant{Left: 700}
			was := a
			for tick := range 8000 {
				was = a
				s, a = bench.Step(s, a, head, tick)
				want, _ := dropset.Volume(was.Fell, p.Set)
				if got, _ := total.Volume(s.Total); got != want {
					t.Fatalf("%+v, head %d, tick %d: %d microlitres of %+v", p, head, tick, got, a)
				}
			}
			fell += a.Fell
		}
	}
	if fell < 1000 {
		t.Errorf("%d drops alone", fell)
	}
}

// P49.5: while it runs, less than the programme's volume has flowed; where it
// keeps the vein open, that has.
func TestHowMuchHasFlowed(t *testing.T) {
	kept := 0
	for _, p := range plans {
		for _, head := range []int{128, 256, 300, 400} {
			s, a := begun(t, p), api.Plant{Left: 100000}
			for tick := range 8000 {
				s, a = bench.Step(s, a, head, tick)
				volume, _ := total.Volume(s.Total)
				if s.Mode == api.ModeRunning && volume >= 1000*p.Vtbi || s.Mode == api.ModeKvo && volume < 1000*p.Vtbi {
					t.Fatalf("%+v, head %d, tick %d: mode %d, %d microlitres", p, head, tick, s.Mode, volume)
				}
			}
			if s.Mode == api.ModeKvo {
				kept++
			}
		}
	}
	if kept < 8 {
		t.Errorf("the vein was kept open %d times", kept)
	}
}

// P49.6: a bag that is empty too soon is a fault, and shut, behind the timeout and
// 330 ticks.
func TestTheBagIsEmptyTooSoon(t *testing.T) {
	for _, p := range plans {
		need, _ := programme.Need(p)
		timeout, _ := dropset.Timeout(p.Rate, p.Set)
		for _, bag := range []int{0, 1, 5, 9} {
			if bag >= need {
				continue
			}
			s, a := begun(t, p), api.Plant{Left: bag}
			// Nothing is missed before it runs.
			last, tick := 341, 0
			for ; tick <= last+timeout+330; tick++ {
				was := a.Fell
				if s, a = bench.Step(s, a, 256, tick); a.Fell > was {
					last = max(tick, last)
				}
			}
			if s.Mode != api.ModeFault || !clamp.Shut(s.Clamp) {
				t.Errorf("%+v, a bag of %d: mode %d, %+v behind %d ticks", p, bag, s.Mode, s.Clamp, tick)
			}
		}
	}
}

// The chapter's example: behind 340 ticks nothing has flowed that counts.
func TestExample(t *testing.T) {
	for _, p := range plans {
		r, wrong := bench.Run(p, 256, 100, 340)
		is(t, "what is wrong", wrong, api.OK)
		is(t, "what came of it", r, api.Report{Mode: api.ModePaused, Left: 100})
	}
}
