package console_test

import (
	"math"
	"reflect"
	"testing"

	"pinchcock/alarm"
	"pinchcock/api"
	"pinchcock/beat"
	"pinchcock/clamp"
	"pinchcock/console"
	"pinchcock/control"
	"pinchcock/eye"
	"pinchcock/flash"
	"pinchcock/follow"
	"pinchcock/guard"
	"pinchcock/journal"
	"pinchcock/keypad"
	"pinchcock/latch"
	"pinchcock/mode"
	"pinchcock/record"
	"pinchcock/revive"
	"pinchcock/screen"
	"pinchcock/titrate"
	"pinchcock/total"
)

// The modes.
const (
	idle = 1 + iota
	priming
	running
	paused
	kvo
	done
	fault
)

// The keys.
const (
	keyNone = iota
	keyUp
	keyDown
	keyNext
	keyStart
	keyConfirm
	keyPause
	keyStop
	keyPrime
	keyAck
	keySilence
)

// The notes.
const (
	ntLow   = 1
	ntData  = 2
	ntDone  = 4
	ntWrite = 8
)

// none is no programme, and usual the one that a pad has at first.
var (
	none  = api.Programme{}
	usual = api.Programme{Rate: 60, Vtbi: 100, Set: 20}
)

// put is an entry as bytes.
func put(e api.Entry) string {
	s, ok := journal.Put(e)
	if !ok {
		panic("an entry that may not be")
	}
	return s
}

// saved is a flash with an entry in its slot 0.
func saved(e api.Entry) api.Flash {
	return api.Flash{Slots: [2]string{put(e), ""}}
}

// told is what is told of a state, by the chapter.
func told(s api.State, level, class int, drop bool) api.Out {
	volume, _ := total.Volume(s.Total)
	frame, _ := screen.Frame(api.Face{Mode: s.Mode, Level: level, Buzzer: class, Latch: s.Guard.Latch, Notes: s.Notes, Volume: volume, Rate: s.Prog.Rate, Open: s.Clamp.Want})
	return api.Out{Tick: s.Tick, Mode: s.Mode, Latch: s.Guard.Latch, Notes: s.Notes, Level: level, Buzzer: class, Open: s.Clamp.Want, Pos: s.Clamp.Motor.Pos, Volume: volume, Drop: drop, Frame: frame}
}

// sure is whether no list of a state is nil: nil and empty ones are the same.
func sure(s api.State) api.State {
	if s.Beat.L == nil {
		s.Beat.L = []int{}
	}
	if s.Guard.Drops == nil {
		s.Guard.Drops = []int{}
	}
	if s.Diary == nil {
		s.Diary = []api.Note{}
	}
	return s
}

// pick is the programme that is chosen at a wish, by the chapter.
func pick(s api.State, wish api.Wish) (api.Programme, bool) {
	if wish.Kind != api.WishBegin {
		return none, false
	}
	if s.Mode == idle {
		return wish.Prog, true
	}
	if s.Prog == wish.Prog {
		return s.Prog, true
	}
	if s.Prog.Vtbi == wish.Prog.Vtbi && s.Prog.Set == wish.Prog.Set {
		next, wrong := titrate.Change(s.Prog, wish.Prog.Rate)
		return next, wrong == api.OK
	}
	return none, false
}

// wantedTurn is the turn of a tick, by the chapter: the first one that there is.
func wantedTurn(s, n api.State, wish api.Wish, begins bool) int {
	rows := []struct {
		so   bool
		turn int
	}{
		{n.Guard.Latch != 0, api.TurnHazard},
		{s.Mode == fault, api.TurnClear},
		{wish.Kind == api.WishStop, api.TurnStop},
		{wish.Kind == api.WishPause, api.TurnPause},
		{s.Mode == running && total.Reached(n.Total, s.Prog.Vtbi), api.TurnVolume},
		{begins, api.TurnBegin},
		{wish.Kind == api.WishPrime, api.TurnPrime},
		{s.Mode == priming && s.Since >= 3000 || s.Mode == kvo && s.Since >= 60000, api.TurnTimeout},
	}
	for _, r := range rows {
		if r.so {
			return r.turn
		}
	}
	return api.TurnNone
}

// wanted is what Tick is to tell, by the chapter, step by step.
func wanted(s api.State, r api.Raw) (api.State, api.Out) {
	n := s
	// Sense.
	rec := record.Take(r)
	n.Tick = min(s.Tick+1, 1<<40)
	var seen api.Seen
	n.Eye, seen = eye.Step(s.Eye, rec)
	if seen.Drop && s.Prog != none {
		n.Total = total.Add(s.Total)
	}
	n.Beat = beat.Step(s.Beat, n.Tick, seen.Drop)
	rate, known := beat.Rate(n.Beat, n.Tick, s.Prog.Set)
	_, over := total.Volume(n.Total)
	over = over || n.Tick == 1<<40
	var wish api.Wish
	n.Pad, wish = keypad.Step(s.Pad, rec.Key, s.Mode, s.Guard.Latch)
	// Watch.
	n.Guard, _ = guard.Step(s.Guard, api.Look{
		Tick: n.Tick, Mode: s.Mode, Prog: s.Prog, Seen: seen, Rec: rec, Rate: rate, Known: known, Out: s.Ctl.Out,
		Stalled: follow.Stalled(follow.Apart(s.Clamp.Apart, s.Clamp.Motor, rec.Encoder)), Overflow: over, Ack: wish.Kind == api.WishAck,
	})
	// Turn.
	chosen, begins := pick(s, wish)
	turn := wantedTurn(s, n, wish, begins)
	// Enter.
	n.Mode = mode.Next(s.Mode, turn, s.Prog != none)
	if n.Since++; n.Mode != s.Mode {
		n.Since = 0
	}
	if turn == api.TurnBegin && n.Mode == running {
		if s.Mode == idle {
			n.Total = api.Total{Set: chosen.Set}
		}
		if chosen != s.Prog {
			n.Prog, n.Guard = chosen, guard.Fresh(n.Guard)
		}
		if s.Mode != running {
			n.Beat, n.Ctl = api.Beat{}, control.Begin(guard.Goal(n.Mode, n.Prog))
		}
	}
	if turn == api.TurnVolume {
		n.Beat, n.Ctl = api.Beat{}, api.Control{Gain: n.Ctl.Gain}
	}
	if n.Mode == idle {
		n.Prog = none
	}
	// Drive.
	if !(n.Mode == running && s.Mode != running) {
		n.Ctl = control.Step(n.Ctl, guard.Goal(n.Mode, n.Prog), rate, n.Tick%100 == 0, n.Mode != running && n.Mode != kvo)
	}
	to := n.Ctl.Out
	if n.Mode == priming {
		to = 150
	}
	n.Clamp, _ = clamp.Step(s.Clamp, to, n.Mode != priming && n.Mode != running && n.Mode != kvo, rec.Encoder)
	// Save.
	var wrote int
	n.Flash, wrote = flash.Step(s.Flash, rec.Write)
	n.Due = max(s.Due-1, 0)
	if wrote == api.WroteAll {
		n.Seq, n.Slot = n.Seq+1, n.Flash.Slot&1
	}
	if wrote == api.WroteTorn {
		n.Notes |= ntWrite
	}
	if wrote == api.WroteTorn || n.Mode != s.Mode || turn == api.TurnBegin && n.Prog != s.Prog {
		n.Due = 0
	}
	if n.Due == 0 && !n.Flash.Busy {
		n.Due = 500
		if f, wrong := revive.Next(n.Flash, n.Slot, api.Entry{Seq: n.Seq + 1, Mode: n.Mode, Prog: n.Prog, Total: n.Total}); wrong == api.OK {
			n.Flash = f
		} else {
			n.Notes |= ntWrite
		}
	}
	return warned(s, n, rec, seen, wish, turn, wrote)
}

// warned is the end of a tick, by the chapter.
func warned(s, n api.State, rec api.Rec, seen api.Seen, wish api.Wish, turn, wrote int) (api.State, api.Out) {
	// Warn.
	if wish.Kind == api.WishAck && n.Guard.Latch == 0 {
		n.Notes = 0
	}
	if n.Notes |= ntLow; rec.Battery >= 3500 {
		n.Notes -= ntLow
	}
	if turn == api.TurnVolume {
		n.Notes |= ntDone
	}
	level := latch.Level(n.Guard.Latch)
	if level == api.LevelNone && n.Notes != 0 {
		level = api.LevelLow
	}
	fresh := n.Guard.Latch &^ s.Guard.Latch
	var shown, class int
	n.Alarm, shown, class = alarm.Step(s.Alarm, level, fresh != 0, wish.Kind == api.WishSilence)
	// Note.
	l := append([]api.Note{}, s.Diary...)
	for _, note := range []struct {
		so        bool
		what, arg int
	}{
		{n.Mode != s.Mode, api.DidMode, n.Mode},
		{fresh != 0, api.DidLatch, fresh},
		{wish.Kind == api.WishAck, api.DidAck, n.Guard.Latch},
		{n.Prog != s.Prog, api.DidProgramme, n.Prog.Rate},
		{wrote != 0, api.DidWrite, wrote},
	} {
		if note.so {
			l = append(l, api.Note{Tick: n.Tick, What: note.what, Arg: note.arg})
			l = l[max(len(l)-32, 0):]
		}
	}
	n.Diary = l
	return n, told(n, shown, class, seen.Drop)
}

// rig is a controller at which the world goes on: a light, a clamp that follows,
// a battery.
type rig struct {
	t     *testing.T
	s     api.State
	out   api.Out
	raw   api.Raw
	every int
	next  int
}

// at is a rig of a flash.
func at(t *testing.T, f api.Flash) *rig {
	t.Helper()
	return &rig{t: t, s: console.Boot(f), raw: api.Raw{Adc: 3000, Battery: 5000, Write: true}}
}

// tick is one, with a key, held against what is wanted.
func (g *rig) tick(key int) api.Out {
	g.t.Helper()
	r := g.raw
	r.Key = key
	r.Encoder += float64(g.s.Clamp.Motor.Pos)
	if g.every > 0 {
		// A drop shades the beam for two ticks, and is seen in the second one.
		if g.next--; g.next == 1 {
			r.Adc = 2000
		} else if g.next <= 0 {
			r.Adc, g.next = 2000, g.every
		}
	}
	return g.hold(r)
}

// hold runs Tick of a record, and holds it against what is wanted.
func (g *rig) hold(r api.Raw) api.Out {
	g.t.Helper()
	s, o := wanted(g.s, r)
	got, out := console.Tick(g.s, r)
	if out != o {
		g.t.Fatalf("tick %d, %+v: %+v, want %+v", g.s.Tick, r, out, o)
	}
	if !reflect.DeepEqual(sure(got), sure(s)) {
		g.t.Fatalf("tick %d, %+v: %+v, want %+v", g.s.Tick, r, got, s)
	}
	g.s, g.out = got, out
	return out
}

// keys are keys, one a tick.
func (g *rig) keys(l ...int) api.Out {
	g.t.Helper()
	for _, key := range l {
		g.tick(key)
	}
	return g.out
}

// ticks are some without a key.
func (g *rig) ticks(n int) api.Out {
	g.t.Helper()
	for range n {
		g.tick(keyNone)
	}
	return g.out
}

// drip lets drops come each so many ticks.
func (g *rig) drip(every int) {
	g.every, g.next = every, every
}

// is is what is expected of a rig.
func (g *rig) is(what string, got, want any) {
	g.t.Helper()
	if !reflect.DeepEqual(got, want) {
		g.t.Fatalf("tick %d, %s: %+v, want %+v", g.s.Tick, what, got, want)
	}
}

// boot runs Boot, and holds it against what is wanted.
func boot(t *testing.T, f api.Flash, want api.State) {
	t.Helper()
	if got := console.Boot(f); !reflect.DeepEqual(sure(got), sure(want)) {
		t.Fatalf("Boot(%+v): %+v, want %+v", f, got, want)
	}
}

// booted is the state of which all is told that Boot finds itself.
func booted(m int, p api.Programme, f api.Flash) api.State {
	pad := usual
	if p != none {
		pad = p
	}
	return api.State{
		Mode: m, Prog: p, Ctl: api.Control{Gain: 256}, Clamp: api.Clamp{Motor: api.Motor{Pos: 300, Home: 320}},
		Flash: api.Flash{Slots: f.Slots}, Due: 500, Pad: api.Pad{Draft: pad}, Diary: []api.Note{{What: 6, Arg: m}},
	}
}

// P45.1: of nothing.
func TestBootOfNothing(t *testing.T) {
	for _, f := range []api.Flash{{}, {Slots: [2]string{"?", ""}}, {Slots: [2]string{"", "\x00\x00"}}, {Slots: [2]string{"a", "b"}, Busy: true, Slot: 1, Buf: "cc", At: 4}} {
		want := booted(idle, none, f)
		want.Notes = ntData
		boot(t, f, want)
	}
}

// P45.1: of an entry, by its mode: its programme, its total, its number and slot.
func TestBootOfAnEntry(t *testing.T) {
	modes := [8]int{0, idle, idle, paused, paused, paused, idle, paused}
	prog := api.Programme{Rate: 120, Vtbi: 7, Set: 15}
	sum := api.Total{Set: 15, Drops: 30, Base: 9}
	for m := idle; m <= fault; m++ {
		for slot := range 2 {
			f := api.Flash{}
			f.Slots[slot] = put(api.Entry{Seq: 9, Mode: m, Prog: prog, Total: sum})
			f.Slots[1-slot] = put(api.Entry{Seq: 8, Mode: 8 - m})
			p := prog
			if modes[m] == idle {
				p = none
			}
			want := booted(modes[m], p, f)
			want.Total, want.Seq, want.Slot = sum, 9, slot
			boot(t, f, want)
			f.Busy, f.Slot, f.Buf, f.At = true, 1-slot, "abc", 4
			boot(t, f, want)
		}
	}
	f := saved(api.Entry{Seq: 9, Mode: running, Total: sum})
	want := booted(idle, none, f)
	want.Total, want.Seq = sum, 9
	boot(t, f, want)
}

// P45.3: what is told of a state by itself.
func TestTell(t *testing.T) {
	s := console.Boot(api.Flash{})
	frame, _ := screen.Frame(api.Face{Mode: idle, Level: 1, Buzzer: 1, Notes: ntData})
	if got := console.Tell(s); got != (api.Out{Mode: idle, Notes: ntData, Level: 1, Buzzer: 1, Pos: 300, Frame: frame}) {
		t.Errorf("of nothing: %+v", got)
	}
	s = console.Boot(saved(api.Entry{Seq: 9, Mode: running, Prog: usual, Total: api.Total{Set: 20, Drops: 30, Base: 7}}))
	frame, _ = screen.Frame(api.Face{Mode: paused, Volume: 1507, Rate: 60})
	if got := console.Tell(s); got != (api.Out{Mode: paused, Pos: 300, Volume: 1507, Frame: frame}) {
		t.Errorf("of an entry: %+v", got)
	}
}

// P45.3: the level of a state is that of its latch, or of its notes; and what is
// of the middle level for long is of the highest one.
func TestTellsLevel(t *testing.T) {
	for _, r := range []struct{ latch, notes, age, level int }{{0, 0, 0, 0}, {0, 8, 0, 1}, {0, 8, 9999, 1}, {0, 1, 5, 1}, {64, 0, 2999, 2}, {64, 15, 0, 2}, {64, 0, 3000, 3}, {512, 0, 0, 3}, {0, 0, 3000, 0}} {
		s := console.Boot(api.Flash{})
		s.Guard.Latch, s.Notes, s.Alarm = r.latch, r.notes, api.Alarm{Age: r.age, Silent: 100}
		if got := console.Tell(s); got != told(s, r.level, r.level, false) {
			t.Errorf("%+v: %+v", r, got)
		}
	}
}

// P45.2 and P45.3: the first tick.
func TestTheFirstTick(t *testing.T) {
	g := at(t, api.Flash{})
	frame, _ := screen.Frame(api.Face{Mode: idle, Level: 1, Buzzer: 1, Notes: ntData})
	g.is("what is told", g.tick(keyNone), api.Out{Tick: 1, Mode: idle, Notes: ntData, Level: 1, Buzzer: 1, Pos: 299, Frame: frame})
	want := booted(idle, none, api.Flash{})
	want.Tick, want.Since, want.Eye, want.Clamp.Motor, want.Due, want.Notes, want.Alarm = 1, 1, api.Eye{Begun: true, Base: 192000}, api.Motor{Pos: 299, Home: 319}, 499, ntData, api.Alarm{Age: 1}
	g.is("the state", sure(g.s), sure(want))
}

// P45.2: start and confirm begin the programme; it opens as control.Begin says,
// and is written at once.
func TestItBegins(t *testing.T) {
	g := at(t, api.Flash{})
	g.drip(300)
	g.ticks(700)
	g.is("a drop that nobody counts", g.s.Total, api.Total{})
	g.keys(keyStart)
	g.is("it asks", []any{g.s.Mode, g.s.Pad.Ask}, []any{idle, true})
	g.keys(keyConfirm)
	g.is("the mode", g.out.Mode, running)
	g.is("the opening", []int{g.out.Open, g.s.Ctl.Out, g.s.Ctl.Gain, g.s.Ctl.Pi.Sum}, []int{25, 25, 256, 25 * 65536})
	g.is("the programme", g.s.Prog, usual)
	g.is("the total", g.s.Total, api.Total{Set: 20})
	g.is("the beat", sure(g.s).Beat, api.Beat{L: []int{}})
	g.is("the guard", sure(g.s).Guard, api.Guard{Drops: []int{}})
	g.is("since", g.s.Since, 0)
	g.is("the flash", []any{g.s.Flash.Busy, g.s.Flash.Slot, g.s.Due}, []any{true, 0, 500})
	g.is("the diary", g.s.Diary[len(g.s.Diary)-2:], []api.Note{{Tick: 702, What: 1, Arg: running}, {Tick: 702, What: 4, Arg: 60}})
	e, ok := journal.Get(g.s.Flash.Buf)
	g.is("the entry", []any{e, ok}, []any{api.Entry{Seq: 2, Mode: running, Prog: usual, Total: api.Total{Set: 20}}, true})
	g.ticks(6)
	g.is("what was written", g.s.Diary[len(g.s.Diary)-1], api.Note{Tick: 708, What: 7, Arg: 1})
	g.is("its number", []int{g.s.Seq, g.s.Slot}, []int{2, 0})
}

// P45.5: start alone, confirm alone, another key between, and a programme that
// may not be, begin nothing.
func TestItDoesNotBegin(t *testing.T) {
	g := at(t, api.Flash{})
	for _, l := range [][]int{{keyStart}, {keyConfirm}, {keyStart, keyUp, keyConfirm}, {keyStart, keyAck, keyConfirm}, {keyStart, keyNext, keyConfirm}, {keyConfirm, keyStart}, {keyStart, keySilence, keyConfirm}} {
		g.keys(l...)
		g.is("the mode", g.out.Mode, idle)
		g.keys(keySilence)
	}
	g.keys(keyStart, keyNone, keyNone, keyConfirm)
	g.is("with pauses", g.out.Mode, running)
}

// began is a rig on which a programme runs that pad has.
func began(t *testing.T, pad api.Programme) *rig {
	t.Helper()
	g := at(t, api.Flash{})
	g.ticks(650)
	g.keys(keyAck)
	g.s.Pad.Draft = pad
	g.keys(keyStart, keyConfirm)
	g.is("it runs", []any{g.out.Mode, g.s.Prog}, []any{running, pad})
	return g
}

// P45.2: drops are counted while there is a programme, and the control goes on
// each hundredth tick.
func TestItRuns(t *testing.T) {
	g := began(t, usual)
	g.drip(300)
	g.ticks(299)
	g.is("no drop yet", []any{g.out.Volume, g.out.Drop}, []any{0, false})
	g.ticks(1)
	g.is("the first drop", []any{g.out.Volume, g.out.Drop}, []any{50, true})
	g.is("the tick", g.s.Tick, 953)
	was := g.s.Ctl
	g.ticks(46)
	g.is("the control", g.s.Ctl, was)
	g.ticks(1)
	if g.s.Tick != 1000 || g.s.Ctl == was {
		t.Fatalf("tick %d: %+v", g.s.Tick, g.s.Ctl)
	}
	g.ticks(3000 - 47)
	g.is("the volume", g.out.Volume, 550)
	g.is("it runs still", []int{g.out.Mode, g.out.Latch, g.out.Level}, []int{running, 0, 0})
	g.keys(keyPause)
	g.is("paused", []any{g.out.Mode, g.out.Open, g.s.Ctl.Out, g.s.Prog, g.out.Volume}, []any{paused, 0, 0, usual, 550})
	g.ticks(299)
	g.is("what drips on", g.out.Volume, 600)
	g.keys(keyStart, keyConfirm)
	g.is("it goes on", []any{g.out.Mode, g.out.Volume, g.s.Prog, g.s.Ctl.Out}, []any{running, 600, usual, 25})
	g.keys(keyStop)
	g.is("stopped", []any{g.out.Mode, g.out.Volume, g.s.Prog, g.out.Open}, []any{idle, 600, none, 0})
	g.keys(keyStart, keyConfirm)
	g.is("from the beginning", []any{g.out.Mode, g.out.Volume, g.s.Prog}, []any{running, 0, usual})
}

// P45.2 and P45.5: when the volume is reached, it runs no more, in that very
// tick; the vein is kept open, and at last it is done.
func TestTheVolumeIsReached(t *testing.T) {
	g := began(t, api.Programme{Rate: 300, Vtbi: 1, Set: 10})
	g.drip(120)
	for k := 1; k <= 1200; k++ {
		g.tick(keyNone)
		if (g.out.Mode == running) != (k < 1200) {
			t.Fatalf("tick %d: mode %d, %d microlitres", k, g.out.Mode, g.out.Volume)
		}
	}
	g.is("what is told", []any{g.out.Mode, g.out.Volume, g.out.Notes, g.out.Level, g.out.Drop}, []any{kvo, 1000, ntDone, 1, true})
	g.is("the control", g.s.Ctl, api.Control{Gain: g.s.Ctl.Gain})
	g.is("the beat", sure(g.s).Beat, api.Beat{L: []int{}})
	g.is("the programme", g.s.Prog, api.Programme{Rate: 300, Vtbi: 1, Set: 10})
	g.drip(7200)
	g.ticks(60000)
	g.is("the vein is open", []int{g.out.Mode, g.out.Volume, g.s.Since, g.out.Latch}, []int{kvo, 1800, 60000, 0})
	g.ticks(1)
	g.is("done", []int{g.out.Mode, g.out.Open, g.s.Since, g.out.Notes}, []int{done, 0, 0, ntDone})
	g.keys(keyAck)
	g.is("acknowledged", []int{g.out.Mode, g.out.Notes, g.out.Level}, []int{done, 0, 0})
	g.keys(keyStop)
	g.is("stopped", []any{g.out.Mode, g.s.Prog}, []any{idle, none})
}

// P45.2: it primes for 3000 ticks, opened by 150, without a programme.
func TestItPrimes(t *testing.T) {
	g := at(t, api.Flash{})
	g.drip(50)
	g.ticks(600)
	g.keys(keyPrime)
	g.is("it primes", []any{g.out.Mode, g.out.Open, g.s.Since, g.s.Ctl.Out}, []any{priming, 150, 0, 0})
	g.ticks(3000)
	g.is("still", []any{g.out.Mode, g.out.Open, g.s.Since, g.out.Volume, g.out.Pos}, []any{priming, 150, 3000, 0, 150})
	g.ticks(1)
	g.is("no more", []any{g.out.Mode, g.out.Open, g.s.Since}, []any{idle, 0, 0})
	g.keys(keyPrime, keyPrime)
	g.is("by the key", g.out.Mode, idle)
	g.keys(keyPrime, keyPause)
	g.is("by another key", g.out.Mode, idle)
}

// P45.2: a rate is changed by no more than twice while it runs; nothing else is.
func TestItIsTitrated(t *testing.T) {
	g := began(t, usual)
	g.drip(300)
	g.ticks(1500)
	ask := func(p api.Programme) { g.s.Pad.Draft = p; g.keys(keyStart, keyConfirm) }
	was := g.s
	ask(api.Programme{Rate: 121, Vtbi: 100, Set: 20})
	g.is("too fast", []any{g.s.Prog, g.out.Mode}, []any{usual, running})
	ask(api.Programme{Rate: 29, Vtbi: 100, Set: 20})
	g.is("too slow", []any{g.s.Prog, g.out.Mode}, []any{usual, running})
	ask(api.Programme{Rate: 60, Vtbi: 101, Set: 20})
	g.is("another volume", []any{g.s.Prog, g.out.Mode}, []any{usual, running})
	ask(api.Programme{Rate: 60, Vtbi: 100, Set: 15})
	g.is("another set", []any{g.s.Prog, g.out.Mode}, []any{usual, running})
	ask(usual)
	g.is("the same one", []any{g.s.Prog, g.out.Mode, g.s.Guard.Drops, g.s.Total.Set}, []any{usual, running, was.Guard.Drops, 20})
	drops := g.s.Total
	ask(api.Programme{Rate: 120, Vtbi: 100, Set: 20})
	g.is("twice", []any{g.s.Prog.Rate, g.out.Mode, g.s.Total, g.s.Beat.Any, g.s.Since > 1000}, []any{120, running, drops, true, true})
	g.is("a fresh guard", sure(g.s).Guard, api.Guard{Drops: []int{}})
	g.is("written", []any{g.s.Flash.Busy, g.s.Diary[len(g.s.Diary)-1].What}, []any{true, 4})
	g.keys(keyPause)
	ask(api.Programme{Rate: 60, Vtbi: 100, Set: 20})
	g.is("paused, and half", []any{g.s.Prog, g.out.Mode, g.s.Total, g.s.Ctl.Out}, []any{usual, running, drops, 25})
	g.keys(keyPause)
	ask(api.Programme{Rate: 60, Vtbi: 200, Set: 20})
	g.is("paused, and another volume", []any{g.s.Prog, g.out.Mode}, []any{usual, paused})
}

// The sixth, seventh and eighth example of the whole: the door, the silence, and
// what is acknowledged.
func TestTheDoor(t *testing.T) {
	g := began(t, usual)
	g.drip(300)
	g.ticks(350)
	g.raw.Door = true
	g.tick(keyNone)
	g.is("open", []int{g.out.Mode, g.out.Latch, g.out.Level, g.out.Buzzer, g.out.Open}, []int{fault, 128, 2, 2, 0})
	g.is("the diary", g.s.Diary[len(g.s.Diary)-2:], []api.Note{{Tick: 1004, What: 1, Arg: fault}, {Tick: 1004, What: 2, Arg: 128}})
	g.keys(keySilence)
	g.is("silence", []int{g.out.Mode, g.out.Latch, g.out.Level, g.out.Buzzer}, []int{fault, 128, 2, 0})
	g.keys(keyAck)
	g.is("acknowledged too soon", []int{g.out.Mode, g.out.Latch}, []int{fault, 128})
	g.raw.Door = false
	g.ticks(2997)
	g.is("for long", []int{g.out.Level, g.out.Buzzer}, []int{3, 1})
	g.keys(keyStart, keyConfirm, keyStop, keyPause, keyPrime)
	g.is("other keys", []int{g.out.Mode, g.out.Latch}, []int{fault, 128})
	g.keys(keyAck)
	g.is("acknowledged", []any{g.out.Mode, g.out.Latch, g.out.Level, g.out.Buzzer, g.s.Prog}, []any{paused, 0, 0, 0, usual})
	g.is("the diary", g.s.Diary[len(g.s.Diary)-2:], []api.Note{{Tick: 4009, What: 1, Arg: paused}, {Tick: 4009, What: 3, Arg: 0}})
}

// P45.2: a fault without a programme is cleared to ModeIdle.
func TestAFaultWithoutAProgramme(t *testing.T) {
	g := at(t, api.Flash{})
	g.raw.Adc = math.NaN()
	g.tick(keyNone)
	g.is("a light that is no number", []int{g.out.Mode, g.out.Latch, g.out.Level}, []int{fault, 1024, 3})
	g.raw.Adc = 3000
	g.ticks(10)
	g.is("it stays", g.out.Mode, fault)
	g.keys(keyAck)
	g.is("cleared", []int{g.out.Mode, g.out.Latch, g.out.Notes}, []int{idle, 0, 0})
}

// The ninth example of the whole: the power goes while it runs, and comes.
func TestThePowerGoes(t *testing.T) {
	g := began(t, usual)
	g.drip(300)
	g.ticks(2000)
	g.is("the volume", g.out.Volume, 300)
	s := console.Boot(flash.Cut(g.s.Flash, ""))
	out := console.Tell(s)
	g.is("it comes", []any{out.Mode, out.Open, out.Volume, s.Prog, s.Total, out.Pos}, []any{paused, 0, 250, usual, api.Total{Set: 20, Drops: 5}, 300})
}

// P45.2: each 500 ticks an entry is written, in turns into both slots, and a
// write that is torn is written again.
func TestItSaves(t *testing.T) {
	g := at(t, api.Flash{})
	g.keys(keyAck)
	begun := []int{}
	for range 2600 {
		busy := g.s.Flash.Busy
		if g.tick(keyNone); !busy && g.s.Flash.Busy {
			begun = append(begun, g.s.Tick)
		}
	}
	g.is("the ticks", begun, []int{500, 1000, 1500, 2000, 2500})
	g.is("the slots", []int{g.s.Seq, g.s.Slot}, []int{5, 1})
	first, _ := journal.Get(g.s.Flash.Slots[0])
	second, _ := journal.Get(g.s.Flash.Slots[1])
	g.is("the entries", []int{first.Seq, second.Seq}, []int{4, 5})
	for g.s.Tick < 3002 {
		g.tick(keyNone)
	}
	g.is("nothing noted", []any{g.s.Flash.Busy, g.out.Notes}, []any{true, 0})
	g.raw.Write = false
	g.tick(keyNone)
	g.is("torn", []any{g.out.Notes, g.s.Seq, g.s.Slot, g.s.Flash.Busy, g.s.Due, g.s.Flash.Slots[0], g.out.Level}, []any{ntWrite, 5, 1, true, 500, "", 1})
	g.is("the diary", g.s.Diary[len(g.s.Diary)-1], api.Note{Tick: 3003, What: 7, Arg: 2})
	g.raw.Write = true
	g.ticks(6)
	g.is("again", []any{g.s.Seq, g.s.Slot, g.out.Notes, g.s.Flash.Busy}, []any{6, 0, ntWrite, false})
	g.keys(keyAck)
	g.is("acknowledged", g.out.Notes, 0)
}

// P45.2: what is torn and acknowledged in one tick is no more noted; an entry
// that can't be written is noted, and waited with.
func TestWhatCannotBeWritten(t *testing.T) {
	g := at(t, saved(api.Entry{Seq: 1<<32 - 1, Mode: idle}))
	g.ticks(499)
	g.is("not yet", []int{g.out.Notes, g.s.Due}, []int{0, 1})
	g.ticks(1)
	g.is("noted", []any{g.out.Notes, g.s.Due, g.s.Flash.Busy, g.s.Seq, g.out.Level}, []any{ntWrite, 500, false, 1<<32 - 1, 1})
	g = at(t, api.Flash{})
	g.ticks(500)
	g.raw.Write = false
	g.tick(keyAck)
	g.is("torn and acknowledged", []any{g.out.Notes, g.s.Diary[len(g.s.Diary)-1].What}, []any{0, 7})
}

// P45.2: a mode that is entered while the flash is busy is written as soon as it
// is not.
func TestItSavesWhenItCan(t *testing.T) {
	g := at(t, api.Flash{})
	g.ticks(501)
	g.keys(keyPrime)
	g.is("busy", []any{g.s.Flash.Busy, g.s.Due}, []any{true, 0})
	g.ticks(3)
	g.is("busy still", []any{g.s.Flash.Busy, g.s.Due, g.s.Seq}, []any{true, 0, 0})
	g.ticks(1)
	e, _ := journal.Get(g.s.Flash.Buf)
	g.is("written", []any{g.s.Flash.Busy, g.s.Due, g.s.Seq, g.s.Slot, e.Seq, e.Mode, g.s.Flash.Slot}, []any{true, 500, 1, 1, 2, priming, 0})
}

// P45.2: a battery that is low is noted just as long as it is; one that is empty
// is a fault in each mode.
func TestTheBattery(t *testing.T) {
	g := at(t, api.Flash{})
	g.keys(keyAck)
	g.raw.Battery = 3499
	g.is("low", g.tick(keyNone).Notes, ntLow)
	g.keys(keyAck)
	g.is("acknowledged", []int{g.out.Notes, g.out.Level}, []int{ntLow, 1})
	g.raw.Battery = 3500
	g.is("not low", g.tick(keyNone).Notes, 0)
	g.raw.Battery = 3299
	g.ticks(19)
	g.is("19 ticks", g.out.Mode, idle)
	g.ticks(1)
	g.is("20 ticks", []int{g.out.Mode, g.out.Latch, g.out.Level, g.out.Notes}, []int{fault, 256, 3, ntLow})
}

// P45.2: a clamp that does not follow is stalled.
func TestTheClampIsStuck(t *testing.T) {
	g := began(t, usual)
	g.raw.Encoder = 7
	for k := 1; k <= 40; k++ {
		if g.tick(keyNone); (g.out.Latch == 512) != (k == 40) {
			t.Fatalf("tick %d: %+v", k, g.out)
		}
	}
	g.is("stalled", []int{g.out.Mode, g.out.Open, g.out.Level}, []int{fault, 0, 3})
}

// P45.2: a clamp that was wide open, and yet no drops, are an empty bag.
func TestTheBagIsEmpty(t *testing.T) {
	g := began(t, usual)
	g.s.Ctl = api.Control{Pi: api.Pi{Sum: 300 * 65536}, Gain: 1024, Out: 300}
	for k := 1; k <= 500; k++ {
		if g.tick(keyNone); (g.out.Latch == 32) != (k == 500) {
			t.Fatalf("tick %d: %+v", k, g.out)
		}
	}
	g.is("empty", []int{g.out.Mode, g.out.Open, g.out.Level, g.s.Ctl.Out}, []int{fault, 0, 2, 0})
}

// P45.2: a total beyond what may be, and a tick at its limit, are overflows.
func TestOverflows(t *testing.T) {
	g := at(t, saved(api.Entry{Seq: 1, Mode: running, Prog: usual, Total: api.Total{Set: 20, Drops: 2, Base: 99999849}}))
	g.drip(300)
	g.ticks(299)
	g.is("not yet", []int{g.out.Mode, g.out.Volume}, []int{paused, 99999949})
	g.ticks(1)
	g.is("at the limit", []int{g.out.Mode, g.out.Volume}, []int{paused, 99999999})
	g.ticks(300)
	g.is("beyond", []int{g.out.Mode, g.out.Volume, g.out.Latch, g.out.Level}, []int{fault, 99999999, 2048, 3})
	g.keys(keyAck)
	g.is("it stays", []int{g.out.Mode, g.out.Latch}, []int{fault, 2048})
	g = at(t, api.Flash{})
	g.ticks(3)
	g.s.Tick = 1<<40 - 2
	g.is("one ahead", []int{g.tick(keyNone).Tick, g.out.Mode}, []int{1<<40 - 1, idle})
	g.is("at the limit", []int{g.tick(keyNone).Tick, g.out.Mode, g.out.Latch}, []int{1 << 40, fault, 2048})
	g.is("and on", []int{g.tick(keyNone).Tick, g.out.Mode, g.out.Latch}, []int{1 << 40, fault, 2048})
}

// P45.2: the diary keeps the last 32, and has all of a tick in order.
func TestTheDiary(t *testing.T) {
	g := at(t, api.Flash{})
	for range 30 {
		g.keys(keyPrime)
		g.ticks(8)
		g.keys(keyPrime)
		g.ticks(8)
	}
	g.is("its length", len(g.s.Diary), 32)
	g.ticks(600)
	for !g.s.Flash.Busy {
		g.tick(keyNone)
	}
	g.raw.Write, g.raw.Adc = false, math.Inf(1)
	g.tick(keyAck)
	tick := g.s.Tick
	g.is("all of a tick", g.s.Diary[28:], []api.Note{{Tick: tick, What: 1, Arg: fault}, {Tick: tick, What: 2, Arg: 1024}, {Tick: tick, What: 3, Arg: 1024}, {Tick: tick, What: 7, Arg: 2}})
}

// The chapter's example: from nothing.
func TestExample(t *testing.T) {
	s := console.Boot(api.Flash{})
	if s.Mode != api.ModeIdle || s.Notes != api.NtData {
		t.Errorf("mode %d, notes %d", s.Mode, s.Notes)
	}
}
