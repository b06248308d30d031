package session_test

import (
	"math"
	"reflect"
	"slices"
	"strings"
	"testing"

	"pinchcock/api"
	"pinchcock/console"
	"pinchcock/flash"
	"pinchcock/journal"
	"pinchcock/mode"
	"pinchcock/record"
	"pinchcock/scenes"
	"pinchcock/session"
	"pinchcock/spec"
)

// usual is a programme, and nothing no slots.
var (
	usual   = api.Programme{Rate: 500, Vtbi: 1, Set: 10}
	nothing = [2]string{}
)

// put is an entry as bytes.
func put(e api.Entry) string {
	s, ok := journal.Put(e)
	if !ok {
		panic("an entry that may not be")
	}
	return s
}

// plain is the step of a tick with a light, and all else as it should be.
func plain(light float64) api.Step {
	return api.Step{Raw: api.Raw{Adc: light, Battery: 5000, Write: true}}
}

// keyed is the step of a tick with a key.
func keyed(key int) api.Step {
	x := plain(3000)
	x.Raw.Key = key
	return x
}

// cut is a power cut that leaves these bytes.
func cut(torn string) api.Step {
	return api.Step{Cut: true, Torn: torn}
}

// lists makes nil of empty lists: these are the same.
func lists(s api.State) api.State {
	s.Beat.L = slices.Clip(append([]int{}, s.Beat.L...))
	s.Guard.Drops = slices.Clip(append([]int{}, s.Guard.Drops...))
	s.Diary = slices.Clip(append([]api.Note{}, s.Diary...))
	return s
}

// is is what is expected.
func is(t *testing.T, what string, got, want any) {
	t.Helper()
	if !reflect.DeepEqual(got, want) {
		t.Fatalf("%s: %+v, want %+v", what, got, want)
	}
}

// wanted is a step, by the chapter.
func wanted(s api.State, x api.Step) (api.State, api.Out) {
	if x.Cut {
		b := console.Boot(flash.Cut(s.Flash, x.Torn))
		return b, console.Tell(b)
	}
	return console.Tick(s, x.Raw)
}

// P46.1, P46.2, P46.3: each step of whatever script is a tick or a cut, and what
// is told is told in order.
func TestRunStepByStep(t *testing.T) {
	for number := range 8 {
		slots, l := scenes.Make(4600+number, 5000)
		s := console.Boot(api.Flash{Slots: slots})
		want := []api.Out{console.Tell(s)}
		for k, x := range l {
			next, out := wanted(s, x)
			got, told := session.Step(s, x)
			if told != out {
				t.Fatalf("step %d of the scene %d: %+v, want %+v", k, number, told, out)
			}
			is(t, "the state", lists(got), lists(next))
			s, want = next, append(want, out)
		}
		if !slices.Equal(session.Run(slots, l), want) {
			t.Fatalf("Run of the scene %d", number)
		}
		is(t, "Last", lists(session.Last(slots, l)), lists(s))
	}
}

// P46.1: a cut takes the bytes that it leaves into the slot that is written, and
// only then; a tick hangs on no bytes, and a cut on no record.
func TestStep(t *testing.T) {
	s := console.Boot(api.Flash{})
	for range 500 {
		s, _ = session.Step(s, plain(3000))
	}
	is(t, "it writes", []any{s.Flash.Busy, s.Flash.Slot}, []any{true, 1})
	entry := put(api.Entry{Seq: 9, Mode: api.ModeRunning, Prog: usual, Total: api.Total{Set: 10, Drops: 3}})
	b, out := session.Step(s, cut(entry))
	is(t, "an entry is left", []any{b.Mode, b.Prog, b.Seq, b.Slot, b.Flash, out.Volume, out.Mode}, []any{api.ModePaused, usual, 9, 1, api.Flash{Slots: [2]string{"", entry}}, 300, api.ModePaused})
	b, out = session.Step(s, cut(entry+"!"))
	is(t, "more than that", []any{b.Mode, out.Notes, b.Flash.Slots[1], b.Tick, out.Tick}, []any{api.ModeIdle, api.NtData, entry + "!", 0, 0})
	b, _ = session.Step(s, cut(strings.Repeat("x", 99)))
	is(t, "64 bytes at most", b.Flash.Slots, [2]string{"", strings.Repeat("x", 64)})
	b, _ = session.Step(b, cut(entry))
	is(t, "nothing was written", b.Flash.Slots, [2]string{"", strings.Repeat("x", 64)})
	odd := cut("x")
	odd.Raw = api.Raw{Adc: math.NaN(), Key: api.KeyStart}
	a, told := session.Step(s, odd)
	b, out = session.Step(s, cut("x"))
	is(t, "a cut with a record", []any{a, told}, []any{b, out})
	odd = plain(3000)
	odd.Torn = entry
	a, told = session.Step(s, odd)
	b, out = session.Step(s, plain(3000))
	is(t, "a tick with bytes", []any{lists(a), told}, []any{lists(b), out})
}

// P46.2: one more is told than there are steps.
func TestRun(t *testing.T) {
	is(t, "no steps", session.Run(nothing, nil), []api.Out{console.Tell(console.Boot(api.Flash{}))})
	slots := [2]string{"", put(api.Entry{Seq: 3, Mode: api.ModeRunning, Prog: usual, Total: api.Total{Set: 10, Drops: 2}})}
	out := session.Run(slots, []api.Step{keyed(api.KeyStart), keyed(api.KeyConfirm), cut(""), keyed(api.KeyStop)})
	var modes, ticks, volumes []int
	for _, o := range out {
		modes, ticks, volumes = append(modes, o.Mode), append(ticks, o.Tick), append(volumes, o.Volume)
	}
	is(t, "the modes", modes, []int{api.ModePaused, api.ModePaused, api.ModeRunning, api.ModePaused, api.ModeIdle})
	is(t, "the ticks", ticks, []int{0, 1, 2, 0, 1})
	is(t, "the volumes", volumes, []int{200, 200, 200, 200, 200})
}

// P46.3: the state behind all steps; of no steps that which has come up.
func TestLast(t *testing.T) {
	is(t, "no steps", lists(session.Last(nothing, nil)), lists(console.Boot(api.Flash{})))
	s := session.Last(nothing, []api.Step{keyed(api.KeyNext), keyed(api.KeyUp)})
	is(t, "the pad", []any{s.Pad.Field, s.Pad.Draft.Vtbi, s.Tick}, []any{api.FieldVtbi, 110, 2})
}

// Of a script the first 20000 steps count.
func TestLongScripts(t *testing.T) {
	l := make([]api.Step, 20002)
	for k := range l {
		l[k] = plain(3000)
	}
	l[19999], l[20000] = keyed(api.KeyUp), cut("")
	out := session.Run(nothing, l)
	is(t, "how many are told", len(out), 20001)
	is(t, "the last one", out[20000].Tick, 20000)
	s := session.Last(nothing, l)
	is(t, "the state", []int{s.Tick, s.Pad.Draft.Rate}, []int{20000, 65})
	lights := session.Lights(l)
	is(t, "the lights", []int{len(lights), len(lights[0])}, []int{1, 20000})
	is(t, "the drops", len(session.Drops(l)), 1)
	l[19999] = cut("")
	lights = session.Lights(l)
	is(t, "the lights of two times", []int{len(lights), len(lights[0]), len(lights[1])}, []int{2, 19999, 0})
	is(t, "the state behind a cut", session.Last(nothing, l).Tick, 0)
}

// P46.4: lights as they are taken, of each time with power, also of those without
// a tick.
func TestLights(t *testing.T) {
	wild := []api.Step{plain(math.NaN()), plain(7.9), plain(-3), cut("x"), cut(""), plain(5000), plain(math.Inf(-1)), cut("")}
	for _, r := range []struct {
		l    []api.Step
		want [][]int
	}{
		{nil, [][]int{{}}},
		{[]api.Step{cut("")}, [][]int{{}, {}}},
		{[]api.Step{plain(1), plain(2)}, [][]int{{1, 2}}},
		{wild, [][]int{{0, 7, 0}, {}, {4095, 0}, {}}},
	} {
		got := session.Lights(r.l)
		if len(got) != len(r.want) {
			t.Fatalf("%v: %v", r.l, got)
		}
		for k := range got {
			if !slices.Equal(got[k], r.want[k]) {
				t.Errorf("%v: %v, want %v", r.l, got, r.want)
			}
		}
	}
}

// P46.5: the drops of each time with power by itself.
func TestDrops(t *testing.T) {
	l := []api.Step{plain(3000), plain(2000), plain(2000), plain(3000), cut(""), plain(2000), plain(2000), cut(""), plain(3000), plain(2000), cut(""), plain(2000)}
	got := session.Drops(l)
	want := [][]int{{2}, {}, {}, {}}
	if len(got) != len(want) {
		t.Fatalf("%v", got)
	}
	for k := range want {
		if !slices.Equal(got[k], want[k]) {
			t.Errorf("%v, want %v", got, want)
		}
	}
	for number := range 4 {
		_, l := scenes.Make(4650+number, 6000)
		lights := session.Lights(l)
		drops := session.Drops(l)
		if len(drops) != len(lights) {
			t.Fatalf("%d times, %d lists of drops", len(lights), len(drops))
		}
		for k := range lights {
			if !slices.Equal(drops[k], spec.Drops(lights[k])) {
				t.Fatalf("the time %d of the scene %d", k, number)
			}
		}
	}
}

// P46.6: each drop that is told is one that spec tells, in its tick, and the other
// way round.
func TestDropsAreTold(t *testing.T) {
	told := 0
	for number := range 10 {
		slots, l := scenes.Make(4700+number, 6000)
		out := session.Run(slots, l)[1:]
		var drops [][]int
		seen := []int{}
		for k, x := range l {
			if x.Cut {
				drops, seen = append(drops, seen), []int{}
			} else if out[k].Drop {
				// The first tick of a time is the tick 1, and the place 0 of its lights.
				seen = append(seen, out[k].Tick-1)
				told++
			}
		}
		drops = append(drops, seen)
		meant := session.Drops(l)
		if len(meant) != len(drops) {
			t.Fatalf("%d times, want %d", len(meant), len(drops))
		}
		for k := range drops {
			if !slices.Equal(drops[k], meant[k]) {
				t.Fatalf("the time %d of the scene %d: %v, want %v", k, number, drops[k], meant[k])
			}
		}
	}
	if told < 200 {
		t.Errorf("%d drops alone", told)
	}
}

// P46.7: behind a cut it is wanted shut, in a mode that does not open, with a
// total that was written, or was being written.
func TestBehindACut(t *testing.T) {
	cuts := 0
	for number := range 10 {
		slots, l := scenes.Make(4750+number, 6000)
		s := session.Last(slots, nil)
		for _, x := range l {
			next, out := session.Step(s, x)
			if x.Cut {
				cuts++
				if out.Open != 0 || next.Clamp.Want != 0 || mode.Opens(out.Mode) {
					t.Fatalf("the scene %d: %+v", number, out)
				}
				var totals []api.Total
				for _, slot := range []string{s.Flash.Slots[0], s.Flash.Slots[1], s.Flash.Buf} {
					if e, ok := journal.Get(slot); ok {
						totals = append(totals, e.Total)
					}
				}
				if !slices.Contains(totals, next.Total) && !(len(totals) == 0 && next.Total == api.Total{}) && !onlyTorn(s) {
					t.Fatalf("the scene %d: the total %+v of %+v", number, next.Total, totals)
				}
			}
			s = next
		}
	}
	if cuts < 10 {
		t.Errorf("%d cuts alone", cuts)
	}
}

// onlyTorn tells whether the one entry that there would be is just being written:
// a cut may leave none, then.
func onlyTorn(s api.State) bool {
	_, other := journal.Get(s.Flash.Slots[1-s.Flash.Slot&1])
	return s.Flash.Busy && !other
}

// P46.8: a script goes on with what the steps ahead of it left, wherever it is
// taken apart.
func TestScriptsGoOn(t *testing.T) {
	slots, l := scenes.Make(4790, 3000)
	out, last := session.Run(slots, l), session.Last(slots, l)
	for _, at := range []int{0, 1, 77, 1500, 2999, 3000} {
		s := session.Last(slots, l[:at])
		if !slices.Equal(session.Run(slots, l[:at]), out[:at+1]) {
			t.Fatalf("the first %d steps tell something else", at)
		}
		for k, x := range l[at:] {
			next, told := session.Step(s, x)
			if told != out[at+k+1] {
				t.Fatalf("step %d, gone on with at %d: %+v, want %+v", at+k, at, told, out[at+k+1])
			}
			s = next
		}
		is(t, "the end", lists(s), lists(last))
	}
}

// R1 and R3: what is handed in stays as it was, and no two lists of an answer
// share any memory.
func TestMemory(t *testing.T) {
	slots, l := scenes.Make(4795, 4000)
	kept := slices.Clone(l)
	lights := session.Lights(l)
	before := make([][]int, len(lights))
	for k := range lights {
		before[k] = slices.Clone(lights[k])
	}
	for k := range lights {
		grown := append(lights[k], 1, 2, 3)
		for i := range grown {
			grown[i] = -9
		}
		for i := k + 1; i < len(lights); i++ {
			if !slices.Equal(lights[i], before[i]) {
				t.Fatalf("the times %d and %d share memory", k, i)
			}
		}
	}
	session.Run(slots, l)
	session.Last(slots, l)
	session.Drops(l)
	for k := range l {
		if record.Take(l[k].Raw) != record.Take(kept[k].Raw) || l[k].Cut != kept[k].Cut || l[k].Torn != kept[k].Torn {
			t.Fatalf("step %d is another one", k)
		}
	}
	s := session.Last(slots, l)
	was := lists(s)
	next, _ := session.Step(s, plain(3000))
	for k := range next.Diary {
		next.Diary[k] = api.Note{Tick: -9}
	}
	is(t, "the state", lists(s), was)
}

// R1: states that may not be are stepped through, too.
func TestStatesThatMayNotBe(t *testing.T) {
	for _, n := range []int{math.MinInt, -1, math.MaxInt} {
		s := api.State{Tick: n, Mode: n, Since: n, Seq: n, Slot: n, Due: n, Flash: api.Flash{Busy: true, Slot: n, At: n, Buf: "abc"}}
		session.Step(s, plain(math.NaN()))
		session.Step(s, cut("x"))
	}
}
