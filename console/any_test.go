package console_test

import (
	"math"
	"math/rand"
	"reflect"
	"testing"

	"pinchcock/api"
	"pinchcock/console"
	"pinchcock/flash"
	"pinchcock/latch"
	"pinchcock/mode"
	"pinchcock/programme"
	"pinchcock/record"
	"pinchcock/screen"
	"pinchcock/total"
)

// world is what a script brings: calm mostly, now and then not.
type world struct {
	rnd   *rand.Rand
	calm  int
	next  int
	door  bool
	stuck int
	dark  int
}

// key is one that does something, mostly.
func (w *world) key(s api.State) int {
	r := w.rnd
	if r.Intn(40) > 0 {
		return keyNone
	}
	switch {
	case s.Guard.Latch != 0 && r.Intn(2) == 0:
		return keyAck
	case s.Pad.Ask && r.Intn(4) > 0:
		return keyConfirm
	case (s.Mode == idle || s.Mode == paused) && r.Intn(3) > 0:
		return keyStart
	case r.Intn(4) > 0:
		return []int{keyUp, keyDown, keyNext, keyStart, keyNone, keySilence}[r.Intn(6)]
	}
	return r.Intn(13) - 1
}

// raw is a record of a tick of it.
func (w *world) raw(s api.State) api.Raw {
	r := w.rnd
	rare := func(n int) bool { return r.Intn(n*w.calm) == 0 }
	x := api.Raw{Adc: 3000, Tilt: 5, Battery: 5000, Encoder: float64(s.Clamp.Motor.Pos), Key: w.key(s), Write: !rare(3)}
	if w.next--; w.next <= 0 {
		w.next = 2 + r.Intn(100)
		if often := s.Prog.Rate * s.Prog.Set; often > 0 && r.Intn(5) > 0 {
			w.next = 360000/often + r.Intn(5) - 2
		}
		w.dark = 2
		if rare(20) {
			w.dark = r.Intn(20)
		}
	}
	if w.dark > 0 {
		w.dark--
		x.Adc = 2000
	}
	if rare(40) {
		w.door = !w.door
	}
	x.Door = w.door && r.Intn(100) > 0
	w.door = x.Door
	if rare(200) {
		w.stuck = 50
	}
	if w.stuck > 0 {
		w.stuck--
		x.Encoder -= 20
	}
	switch {
	case rare(300):
		x.Adc = []float64{math.NaN(), math.Inf(1), -1, 5000}[r.Intn(4)]
	case rare(300):
		x.Tilt = []float64{90, math.Inf(-1), 200}[r.Intn(3)]
	case rare(100):
		x.Battery = []float64{3400, 3000, -5, math.NaN()}[r.Intn(4)]
	}
	return x
}

// slow are programmes that need few drops, so that they come to an end.
var slow = []api.Programme{{Rate: 500, Vtbi: 1, Set: 10}, {Rate: 1000, Vtbi: 1, Set: 20}, {Rate: 300, Vtbi: 2, Set: 10}, {Rate: 400, Vtbi: 1, Set: 60}, usual}

// random is a source of what any script may bring.
func random(seed int64) *rand.Rand {
	return rand.New(rand.NewSource(seed))
}

// watch runs ticks of any kind, with power cuts, and hands each on, with what was.
func watch(t *testing.T, seed int64, ticks int, hold func(was, now api.State, before, out api.Out, r api.Raw)) {
	t.Helper()
	rnd := random(seed)
	w := world{rnd: rnd, calm: 1 + rnd.Intn(40)}
	g := at(t, api.Flash{})
	g.s.Pad.Draft = slow[rnd.Intn(len(slow))]
	before := console.Tell(g.s)
	for k := range ticks {
		if rnd.Intn(1500) == 0 {
			torn := make([]byte, rnd.Intn(22))
			rnd.Read(torn)
			draft := g.s.Pad.Draft
			g.s = console.Boot(flash.Cut(g.s.Flash, string(torn)))
			before = console.Tell(g.s)
			if g.s.Mode == idle && programme.Check(draft) == api.OK {
				g.s.Pad.Draft = draft
			}
			w.calm = 1 + rnd.Intn(40)
			if before.Open != 0 || mode.Opens(before.Mode) {
				t.Fatalf("it comes up with %+v", before)
			}
		}
		if g.s.Mode == kvo && k%4000 == 0 {
			g.s.Since += 59000
		}
		was, r := g.s, w.raw(g.s)
		g.hold(r)
		hold(was, g.s, before, g.out, r)
		before = g.out
	}
}

// P45.2 to P45.6: of whatever comes it is what the chapter says; open only while
// the mode opens and nothing is latched; a fault just while something is; with a
// frame that tells the same.
func TestWhateverComes(t *testing.T) {
	modes := map[int]int{}
	for seed := range int64(12) {
		watch(t, 4500+seed, 8000, func(was, now api.State, before, out api.Out, r api.Raw) {
			modes[out.Mode]++
			if out.Open > 0 && (!mode.Opens(out.Mode) || out.Latch != 0) || (out.Mode == fault) != (out.Latch != 0) {
				t.Fatalf("%+v behind %+v", out, before)
			}
			if out.Level < latch.Level(out.Latch) || (out.Level == 0) != (out.Latch == 0 && out.Notes == 0) || out.Buzzer > out.Level || out.Level == 3 && out.Buzzer == 0 {
				t.Fatalf("%+v behind %+v", out, before)
			}
			f, ok := screen.Parse(out.Frame)
			if want := (api.Face{Mode: out.Mode, Level: out.Level, Buzzer: out.Buzzer, Latch: out.Latch, Notes: out.Notes, Volume: out.Volume, Rate: now.Prog.Rate, Open: out.Open}); !ok || f != want {
				t.Fatalf("%+v behind %+v: %+v", out, before, f)
			}
			if (now.Mode == running || now.Mode == paused || now.Mode == kvo || now.Mode == done) != mode.Accepts(now.Mode) || mode.Accepts(now.Mode) != (now.Prog != none) && now.Mode != fault {
				t.Fatalf("mode %d with %+v", now.Mode, now.Prog)
			}
		})
	}
	for m := idle; m <= fault; m++ {
		if modes[m] < 20 {
			t.Errorf("mode %d: %d ticks", m, modes[m])
		}
	}
}

// P45.5: it begins to run only at KeyConfirm, behind KeyStart, with a programme
// that may be; and runs no more when its volume is reached.
func TestHowItRuns(t *testing.T) {
	begun, reached := 0, 0
	for seed := range int64(12) {
		last := keyNone
		watch(t, 4600+seed, 8000, func(was, now api.State, before, out api.Out, r api.Raw) {
			if was.Tick == 0 {
				last = keyNone
			}
			key := record.Take(r).Key
			if out.Mode == running && (before.Mode != running || now.Prog != was.Prog) {
				begun++
				if key != keyConfirm || last != keyStart || programme.Check(now.Prog) != api.OK {
					t.Fatalf("%+v behind %+v by the keys %d and %d", out, before, last, key)
				}
			}
			// What was reached when it began is found in the next tick.
			if over := total.Reached(now.Total, now.Prog.Vtbi); over && before.Mode == running && out.Mode == running && now.Prog == was.Prog {
				t.Fatalf("it runs behind its end: %+v", out)
			} else if over && out.Mode == kvo && before.Mode == running {
				reached++
			}
			if key != keyNone {
				last = key
			}
		})
	}
	if begun < 100 || reached < 20 {
		t.Errorf("it began %d times, and came to its end %d times", begun, reached)
	}
}

// P45.6: what is latched stays, till it is acknowledged.
func TestWhatIsLatchedStays(t *testing.T) {
	for seed := range int64(6) {
		watch(t, 4700+seed, 6000, func(was, now api.State, before, out api.Out, r api.Raw) {
			if before.Latch&^out.Latch != 0 && record.Take(r).Key != keyAck {
				t.Fatalf("%+v behind %+v", out, before)
			}
		})
	}
}

// P45.6: silence changes nothing but how the buzzer sounds, and the question.
func TestSilenceChangesNothing(t *testing.T) {
	for seed := range int64(6) {
		watch(t, 4800+seed, 3000, func(was, now api.State, before, out api.Out, r api.Raw) {
			r.Key = keyNone
			plain, a := console.Tick(was, r)
			r.Key = keySilence
			quiet, b := console.Tick(was, r)
			a.Buzzer, a.Frame, b.Buzzer, b.Frame = 0, "", 0, ""
			plain.Alarm.Silent, quiet.Alarm.Silent, plain.Pad.Ask = 0, 0, false
			if a != b || !reflect.DeepEqual(sure(plain), sure(quiet)) {
				t.Fatalf("%+v: %+v, %+v", was, a, b)
			}
		})
	}
}

// copied is a state that shares no memory, with room behind its lists.
func copied(s api.State) api.State {
	s.Beat.L = append(append([]int{}, s.Beat.L...), 1, 2)[:len(s.Beat.L)]
	s.Guard.Drops = append(append([]int{}, s.Guard.Drops...), 1, 2)[:len(s.Guard.Drops)]
	s.Diary = append(append([]api.Note{}, s.Diary...), api.Note{}, api.Note{})[:len(s.Diary)]
	return s
}

// R3: what is handed in is not changed, nor what lies behind a list's end, and
// what is answered is new memory.
func TestMemory(t *testing.T) {
	watch(t, 4900, 3000, func(was, now api.State, before, out api.Out, r api.Raw) {
		in := copied(was)
		next, _ := console.Tick(in, r)
		for _, l := range [][]int{next.Beat.L, next.Guard.Drops} {
			for k := range append(l, 7, 7) {
				append(l, 7, 7)[k] = -9
			}
			for k := range l {
				l[k] = -9
			}
		}
		for k := range next.Diary {
			next.Diary[k] = api.Note{Tick: -9}
		}
		kept := copied(was)
		same := reflect.DeepEqual(in, kept)
		same = same && reflect.DeepEqual(in.Beat.L[:len(was.Beat.L)+2], kept.Beat.L[:len(was.Beat.L)+2])
		same = same && reflect.DeepEqual(in.Guard.Drops[:len(was.Guard.Drops)+2], kept.Guard.Drops[:len(was.Guard.Drops)+2])
		same = same && reflect.DeepEqual(in.Diary[:len(was.Diary)+2], kept.Diary[:len(was.Diary)+2])
		if !same {
			t.Fatalf("%+v became %+v", was, in)
		}
	})
}

// R4: what is told hangs on the state and the record alone.
func TestNothingIsKept(t *testing.T) {
	watch(t, 4901, 2000, func(was, now api.State, before, out api.Out, r api.Raw) {
		console.Tick(console.Boot(api.Flash{}), api.Raw{Adc: math.NaN()})
		again, o := console.Tick(was, r)
		if o != out || !reflect.DeepEqual(again, now) {
			t.Fatalf("%+v, and then %+v", out, o)
		}
	})
}

// R1: no call panics, whatever the state is.
func TestStatesThatMayNotBe(t *testing.T) {
	rnd := random(4902)
	wild := func() int {
		if rnd.Intn(3) == 0 {
			return []int{math.MinInt, math.MaxInt, -1, 0, 1, api.Top, api.MaxTick}[rnd.Intn(7)]
		}
		return int(rnd.Uint64()) >> rnd.Intn(64)
	}
	for range 20000 {
		s := console.Boot(api.Flash{})
		fields := []*int{
			&s.Tick, &s.Mode, &s.Prog.Rate, &s.Prog.Vtbi, &s.Prog.Set, &s.Since, &s.Eye.Base, &s.Eye.Wait, &s.Eye.Run, &s.Eye.Rail, &s.Eye.Steady.Run, &s.Beat.Last, &s.Total.Set, &s.Total.Drops, &s.Total.Base,
			&s.Ctl.Pi.Sum, &s.Ctl.Gain, &s.Ctl.Out, &s.Clamp.Motor.Pos, &s.Clamp.Motor.Home, &s.Clamp.Apart, &s.Clamp.Want, &s.Guard.Drift.Over, &s.Guard.Loss.Since, &s.Guard.Posture.Tilt, &s.Guard.Latch,
			&s.Flash.Slot, &s.Flash.At, &s.Seq, &s.Slot, &s.Due, &s.Alarm.Age, &s.Alarm.Silent, &s.Pad.Field, &s.Pad.Draft.Rate, &s.Pad.Draft.Set, &s.Notes,
		}
		for range rnd.Intn(12) {
			*fields[rnd.Intn(len(fields))] = wild()
		}
		s.Mode = 1 + rnd.Intn(8)
		s.Beat.L, s.Guard.Drops = []int{wild(), wild()}, []int{wild(), wild(), wild()}
		s.Flash.Busy, s.Flash.Buf, s.Pad.Ask = rnd.Intn(2) == 0, string(make([]byte, rnd.Intn(80))), rnd.Intn(2) == 0
		console.Tick(s, api.Raw{Adc: float64(wild()), Tilt: math.NaN(), Battery: math.Inf(1), Encoder: float64(wild()), Key: rnd.Intn(12), Write: rnd.Intn(2) == 0})
		console.Tell(s)
		console.Boot(s.Flash)
	}
}
