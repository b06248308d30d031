package allow_test

import (
	"math"
	"math/rand"
	"slices"
	"testing"

	"pinchcock/allow"
	"pinchcock/api"
	"pinchcock/latch"
	"pinchcock/mode"
	"pinchcock/scenes"
	"pinchcock/screen"
	"pinchcock/session"
)

// The modes, and a number that is none.
const (
	idle = 1 + iota
	priming
	running
	paused
	kvo
	done
	fault
	none
)

// never and any stand for the keys at which a mode never follows, and always does.
const (
	never = -1
	any   = -2
)

// table has a row for each mode, and one for a number that is none: the key at
// which each mode, and that number, may follow it.
var table = [8][8]int{
	{any, api.KeyPrime, api.KeyConfirm, never, never, never, any, never},
	{any, any, never, never, never, never, any, never},
	{api.KeyStop, never, any, api.KeyPause, any, never, any, never},
	{api.KeyStop, never, api.KeyConfirm, any, never, never, any, never},
	{api.KeyStop, never, never, never, any, any, any, never},
	{api.KeyStop, never, never, never, never, any, any, never},
	{api.KeyAck, never, never, api.KeyAck, never, never, any, never},
	{api.KeyStop, never, never, never, never, never, any, any},
}

// keys are all keys, and some numbers that are none.
var keys = []int{api.KeyNone, api.KeyUp, api.KeyDown, api.KeyNext, api.KeyStart, api.KeyConfirm, api.KeyPause, api.KeyStop, api.KeyPrime, api.KeyAck, api.KeySilence, -7, 11, math.MinInt, math.MaxInt}

// P47.1: each mode behind each one, at each key.
func TestMoves(t *testing.T) {
	for a := idle; a <= none; a++ {
		for b := idle; b <= none; b++ {
			for _, key := range keys {
				at := table[a-1][b-1]
				want := at == any || at == key
				if got := allow.Moves(a, b, key); got != want {
					t.Errorf("Moves(%d, %d, %d): %v, want %v", a, b, key, got, want)
				}
			}
		}
	}
}

// P47.1: a number that is no mode is one more mode.
func TestMovesOfNoMode(t *testing.T) {
	for _, n := range []int{math.MinInt, -1, 0, 8, 9, 1 << 32, 1<<32 + 3, math.MaxInt} {
		for _, key := range keys {
			for m := idle; m <= fault; m++ {
				if got, want := allow.Moves(n, m, key), m == fault || m == idle && key == api.KeyStop; got != want {
					t.Errorf("Moves(%d, %d, %d): %v, want %v", n, m, key, got, want)
				}
				if allow.Moves(m, n, key) {
					t.Errorf("Moves(%d, %d, %d)", m, n, key)
				}
			}
			if !allow.Moves(n, n, key) {
				t.Errorf("Moves(%d, %d, %d): false", n, n, key)
			}
		}
	}
}

// framed is what is told, with the frame that shows it.
func framed(o api.Out) api.Out {
	f, _ := screen.Frame(api.Face{Mode: o.Mode, Level: o.Level, Buzzer: o.Buzzer, Latch: o.Latch, Notes: o.Notes, Volume: o.Volume, Rate: 60, Open: o.Open})
	o.Frame = f
	return o
}

// calm is what is told of a tick at which nothing is amiss.
func calm(m, tick int) api.Out {
	return framed(api.Out{Tick: tick, Mode: m, Pos: 100, Volume: 700})
}

// bad is what is told of a fault.
func bad(tick, held, level int) api.Out {
	return framed(api.Out{Tick: tick, Mode: fault, Latch: held, Level: level, Buzzer: level, Pos: 100, Volume: 700})
}

// row is a change of what may be told, and whether that may be told, too.
type row struct {
	name   string
	change func(*api.Out)
	want   bool
}

// hold holds each row against May.
func hold(t *testing.T, a, b api.Out, key int, cut bool, rows []row) {
	t.Helper()
	if !allow.May(a, b, key, cut) {
		t.Fatalf("%+v behind %+v may not be", b, a)
	}
	for _, r := range rows {
		changed := b
		r.change(&changed)
		if got := allow.May(a, framed(changed), key, cut); got != r.want {
			t.Errorf("%s: %v, want %v", r.name, got, r.want)
		}
	}
}

// P47.2: what b is by itself, while it runs.
func TestMayOfBAlone(t *testing.T) {
	hold(t, calm(running, 7), calm(running, 8), api.KeyNone, false, []row{
		{"open", func(o *api.Out) { o.Open = 1 }, true},
		{"wide open", func(o *api.Out) { o.Open = 300 }, true},
		{"too wide", func(o *api.Out) { o.Open = 301 }, false},
		{"noted, and low", func(o *api.Out) { o.Notes, o.Level = api.NtLow, 1 }, true},
		{"noted by another bit", func(o *api.Out) { o.Notes, o.Level = 128, 1 }, true},
		{"noted, and none", func(o *api.Out) { o.Notes = api.NtLow }, false},
		{"low, and nothing noted", func(o *api.Out) { o.Level = 1 }, false},
		{"noted, and high without a sound", func(o *api.Out) { o.Notes, o.Level = 1, 3 }, false},
		{"noted, and high", func(o *api.Out) { o.Notes, o.Level, o.Buzzer = 1, 3, 1 }, true},
		{"noted, and beyond high without a sound", func(o *api.Out) { o.Notes, o.Level = 1, 4 }, true},
		{"a sound", func(o *api.Out) { o.Buzzer = 1 }, false},
		{"a sound of the level", func(o *api.Out) { o.Notes, o.Level, o.Buzzer = 1, 2, 2 }, true},
		{"a sound above the level", func(o *api.Out) { o.Notes, o.Level, o.Buzzer = 1, 2, 3 }, false},
		{"latched, and it runs", func(o *api.Out) { o.Latch, o.Level = api.HzDoor, 2 }, false},
		{"a bit that is no hazard, and it runs", func(o *api.Out) { o.Latch, o.Level = 1<<12, 1 }, false},
		{"a fault without a latch", func(o *api.Out) { o.Mode = fault }, false},
		{"a fault with one", func(o *api.Out) { o.Mode, o.Latch, o.Level = fault, api.HzDoor, 2 }, true},
	})
	for _, m := range []int{idle, paused, done} {
		hold(t, calm(m, 7), calm(m, 8), api.KeyNone, false, []row{{"open", func(o *api.Out) { o.Open = 1 }, false}})
	}
	for _, m := range []int{priming, running, kvo} {
		hold(t, calm(m, 7), calm(m, 8), api.KeyNone, false, []row{{"open", func(o *api.Out) { o.Open = 1 }, true}})
	}
}

// P47.2: what b is by itself, in a fault.
func TestMayOfAFault(t *testing.T) {
	hold(t, bad(7, api.HzDoor, 2), bad(8, api.HzDoor, 2), api.KeyNone, false, []row{
		{"open", func(o *api.Out) { o.Open = 1 }, false},
		{"too low", func(o *api.Out) { o.Level, o.Buzzer = 1, 0 }, false},
		{"higher", func(o *api.Out) { o.Level = 3 }, true},
		{"silent", func(o *api.Out) { o.Buzzer = 0 }, true},
		{"high, and silent", func(o *api.Out) { o.Level, o.Buzzer = 3, 0 }, false},
		{"high, and hardly to be heard", func(o *api.Out) { o.Level, o.Buzzer = 3, 1 }, true},
		{"a graver hazard", func(o *api.Out) { o.Latch |= api.HzStream }, false},
		{"a graver hazard, and higher", func(o *api.Out) { o.Latch, o.Level, o.Buzzer = o.Latch|api.HzStream, 3, 3 }, true},
		{"another bit", func(o *api.Out) { o.Latch |= 1 << 15 }, true},
		{"not a fault", func(o *api.Out) { o.Mode = paused }, false},
	})
	other := bad(8, 1<<13, 1)
	hold(t, bad(7, 1<<13, 1), other, api.KeyNone, false, []row{
		{"no level", func(o *api.Out) { o.Level, o.Buzzer = 0, 0 }, false},
		{"open", func(o *api.Out) { o.Open = 1 }, false},
	})
}

// P47.2: the frame shows what is told, with any rate.
func TestMayOfFrames(t *testing.T) {
	a, b := calm(running, 7), framed(api.Out{Tick: 8, Mode: running, Notes: 1, Level: 2, Buzzer: 1, Open: 9, Pos: 100, Volume: 700})
	face, ok := screen.Parse(b.Frame)
	if !ok || !allow.May(a, b, api.KeyNone, false) {
		t.Fatalf("%+v may not be", b)
	}
	for k, change := range []func(*api.Face){
		func(f *api.Face) { f.Mode++ }, func(f *api.Face) { f.Level++ }, func(f *api.Face) { f.Buzzer++ }, func(f *api.Face) { f.Latch++ },
		func(f *api.Face) { f.Notes++ }, func(f *api.Face) { f.Volume++ }, func(f *api.Face) { f.Open++ }, func(f *api.Face) { f.Rate++ },
	} {
		changed := face
		change(&changed)
		b.Frame, _ = screen.Frame(changed)
		if got, want := allow.May(a, b, api.KeyNone, false), k == 7; got != want {
			t.Errorf("another number %d: %v, want %v", k, got, want)
		}
	}
	good, _ := screen.Frame(face)
	for _, frame := range []string{"", "D", good[1:], good + "x", good[:len(good)-1], "E" + good[1:]} {
		b.Frame = frame
		if allow.May(a, b, api.KeyNone, false) {
			t.Errorf("the frame %q", frame)
		}
	}
}

// P47.2: at a cut what was ahead counts for nothing.
func TestMayAtACut(t *testing.T) {
	up := framed(api.Out{Mode: paused, Pos: 300, Volume: 700})
	for _, a := range []api.Out{{}, calm(running, 7), bad(9, 128, 2), {Tick: math.MaxInt, Mode: 9, Latch: -1, Volume: math.MaxInt}} {
		for _, key := range keys {
			hold(t, a, up, key, true, []row{
				{"idle", func(o *api.Out) { o.Mode = idle }, true},
				{"another volume", func(o *api.Out) { o.Volume = 0 }, true},
				{"noted", func(o *api.Out) { o.Notes, o.Level, o.Buzzer = 2, 1, 1 }, true},
				{"done is noted", func(o *api.Out) { o.Notes, o.Level, o.Buzzer = 4, 1, 1 }, true},
				{"noted, without a level", func(o *api.Out) { o.Notes = 2 }, false},
				{"the tick 1", func(o *api.Out) { o.Tick = 1 }, false},
				{"the tick -1", func(o *api.Out) { o.Tick = -1 }, false},
				{"a fault", func(o *api.Out) { o.Mode, o.Latch, o.Level = fault, 128, 2 }, false},
				{"another position", func(o *api.Out) { o.Pos = 299 }, false},
				{"a position beyond", func(o *api.Out) { o.Pos = 301 }, false},
				{"a drop", func(o *api.Out) { o.Drop = true }, false},
				{"done", func(o *api.Out) { o.Mode = done }, false},
				{"it runs", func(o *api.Out) { o.Mode = running }, false},
				{"it runs, and opens", func(o *api.Out) { o.Mode, o.Open = running, 1 }, false},
				{"no mode", func(o *api.Out) { o.Mode = 9 }, false},
			})
		}
	}
	up.Frame = ""
	if allow.May(api.Out{}, up, 0, true) {
		t.Error("without a frame")
	}
}

// P47.2: ticks are counted, up to the last one, which stays.
func TestMayOfTicks(t *testing.T) {
	for _, r := range []struct {
		a, b int
		want bool
	}{
		{7, 8, true}, {7, 7, false}, {7, 9, false}, {7, 6, false}, {0, 1, true}, {-5, -4, true}, {-1, 0, true}, {math.MinInt, math.MinInt + 1, true}, {math.MaxInt, math.MinInt, false},
		{api.MaxTick - 1, api.MaxTick, true}, {api.MaxTick, api.MaxTick, true}, {api.MaxTick, api.MaxTick + 1, false}, {api.MaxTick + 9, api.MaxTick, true}, {math.MaxInt, api.MaxTick, true},
	} {
		if got := allow.May(calm(paused, r.a), calm(paused, r.b), 0, false); got != r.want {
			t.Errorf("the tick %d behind %d: %v, want %v", r.b, r.a, got, r.want)
		}
	}
}

// P47.2: modes as they may move.
func TestMayOfModes(t *testing.T) {
	for a := idle; a <= none; a++ {
		for b := idle; b <= none; b++ {
			for _, key := range keys {
				was, is := calm(a, 7), calm(b, 8)
				if a == fault {
					was = bad(7, 128, 2)
				}
				if b == fault {
					is = bad(8, 128, 2)
				}
				if a == idle && b == running {
					is.Volume = 0
				}
				if got, want := allow.May(was, framed(is), key, false), allow.Moves(a, b, key); got != want {
					t.Errorf("from %d to %d at the key %d: %v, want %v", a, b, key, got, want)
				}
			}
		}
	}
}

// P47.2: volumes, with a drop and without, and where it begins.
func TestMayOfVolumes(t *testing.T) {
	for _, r := range []struct {
		a, b  int
		drop  bool
		begin bool
		want  bool
	}{
		{700, 700, false, false, true}, {700, 701, false, false, false}, {700, 699, false, false, false}, {700, 699, true, false, false},
		{700, 700, true, false, true}, {700, 800, true, false, true}, {700, 801, true, false, false}, {700, 0, false, true, true}, {700, 700, false, true, false},
		{0, 0, false, true, true}, {0, 1, true, true, false}, {700, 0, true, true, true}, {700, 0, false, false, false}, {700, 700, true, true, false},
		{-1, 0, false, false, false}, {-1, 0, true, false, true}, {-101, 0, true, false, false}, {math.MinInt, 0, true, false, false}, {math.MinInt, 1<<32 - 1, true, false, false},
		{math.MaxInt, 0, false, false, false}, {math.MaxInt, 0, true, true, true},
	} {
		a, b, key := calm(running, 7), calm(running, 8), api.KeyNone
		if r.begin {
			a.Mode, key = idle, api.KeyConfirm
		}
		a.Volume, b.Volume, b.Drop = r.a, r.b, r.drop
		if got := allow.May(a, framed(b), key, false); got != r.want {
			t.Errorf("%+v: %v, want %v", r, got, r.want)
		}
	}
}

// P47.2: positions are apart by one at the most, wherever they are.
func TestMayOfPositions(t *testing.T) {
	for _, r := range []struct {
		a, b int
		want bool
	}{
		{5, 5, true}, {5, 6, true}, {5, 4, true}, {5, 7, false}, {5, 3, false}, {-1, 0, true}, {400, 401, true}, {300, 0, false},
		{math.MaxInt, math.MinInt, false}, {math.MinInt, math.MaxInt, false}, {math.MinInt, math.MinInt + 1, true}, {math.MaxInt, math.MaxInt - 2, false}, {1 << 62, -1 << 62, false},
	} {
		a, b := calm(paused, 7), calm(paused, 8)
		a.Pos, b.Pos = r.a, r.b
		if got := allow.May(a, b, 0, false); got != r.want {
			t.Errorf("%d behind %d: %v, want %v", r.b, r.a, got, r.want)
		}
	}
}

// P47.2: no bit of a latch goes, but at the key that acknowledges.
func TestMayOfLatches(t *testing.T) {
	for _, r := range []struct{ a, b, level int }{{128, 128, 2}, {128, 192, 2}, {192, 128, 2}, {1, 2, 3}, {1<<13 | 128, 128, 2}, {1<<13 | 128, 1<<13 | 128, 2}, {-1, 128, 2}, {1 << 20, 4, 2}, {0, 128, 2}} {
		for _, key := range keys {
			a, b := bad(7, r.a, r.level), bad(8, r.b, r.level)
			want := key == api.KeyAck || r.a&r.b == r.a
			if got := allow.May(a, b, key, false); got != want {
				t.Errorf("%+v at the key %d: %v, want %v", r, key, got, want)
			}
		}
	}
	if !allow.May(bad(7, 192, 2), calm(paused, 8), api.KeyAck, false) || allow.May(bad(7, 192, 2), calm(paused, 8), api.KeyStop, false) {
		t.Error("what goes at once")
	}
}

// P47.2: that all is infused is noted when the vein begins to be kept open alone.
func TestMayOfDone(t *testing.T) {
	noted := func(m, tick, notes int) api.Out {
		o := calm(m, tick)
		if o.Notes = notes; notes != 0 {
			o.Level = 1
		}
		return framed(o)
	}
	for a := idle; a <= done; a++ {
		for b := idle; b <= done; b++ {
			for _, key := range keys {
				is := noted(b, 8, 4)
				if a == idle && b == running {
					is.Volume = 0
					is = framed(is)
				}
				moves := allow.Moves(a, b, key)
				if got, want := allow.May(noted(a, 7, 0), is, key, false), a == running && b == kvo; got != want {
					t.Errorf("noted from %d to %d at the key %d: %v", a, b, key, got)
				}
				if got := allow.May(noted(a, 7, 8), is, key, false); got != (a == running && b == kvo) {
					t.Errorf("noted, beside another one, from %d to %d at the key %d: %v", a, b, key, got)
				}
				if got := allow.May(noted(a, 7, 12), is, key, false); got != moves {
					t.Errorf("it was noted, from %d to %d at the key %d: %v", a, b, key, got)
				}
			}
		}
	}
	if !allow.May(noted(running, 7, 4), noted(running, 8, 0), 0, false) || !allow.May(noted(running, 7, 0), noted(running, 8, 11), 0, false) {
		t.Error("other notes, and none")
	}
}

// P47.3: the place of the first step behind which something is amiss.
func TestFirst(t *testing.T) {
	step := func(key int) api.Step { return api.Step{Raw: api.Raw{Key: key}} }
	cut := api.Step{Cut: true, Raw: api.Raw{Key: 3}}
	up := framed(api.Out{Mode: paused, Pos: 300, Volume: 700})
	a, b, c := calm(running, 7), calm(paused, 8), calm(paused, 9)
	for _, r := range []struct {
		name string
		out  []api.Out
		l    []api.Step
		want int
	}{
		{"nothing", nil, nil, -1},
		{"no steps", []api.Out{a, {}}, nil, -1},
		{"nothing told", nil, []api.Step{step(0)}, 0},
		{"one thing told", []api.Out{a}, []api.Step{step(0)}, 0},
		{"by its key", []api.Out{a, b, c}, []api.Step{step(api.KeyPause), step(0)}, -1},
		{"by another key", []api.Out{a, b, c}, []api.Step{step(api.KeyStop), step(0)}, 0},
		{"more is told", []api.Out{a, b, c, {}}, []api.Step{step(api.KeyPause), step(99)}, -1},
		{"less is told", []api.Out{a, b}, []api.Step{step(api.KeyPause), step(0)}, 1},
		{"the second one", []api.Out{a, b, c, c}, []api.Step{step(api.KeyPause), step(0), step(0)}, 2},
		{"a cut", []api.Out{a, up}, []api.Step{cut}, -1},
		{"no cut", []api.Out{a, up}, []api.Step{step(0)}, 0},
		{"a cut that is none", []api.Out{a, b}, []api.Step{cut}, 0},
		{"a key that is none", []api.Out{b, c}, []api.Step{step(-6)}, -1},
	} {
		if got := allow.First(r.out, r.l); got != r.want {
			t.Errorf("%s: %d, want %d", r.name, got, r.want)
		}
	}
	// A key that is none is no key: what another one does it does not.
	if got := allow.First([]api.Out{bad(7, 128, 2), calm(paused, 8)}, []api.Step{step(api.KeyAck + 1<<32)}); got != 0 {
		t.Errorf("a key that is none: %d", got)
	}
}

// P47.4: whatever a script brings may be told.
func TestWhateverIsToldMayBe(t *testing.T) {
	for number := range 24 {
		slots, l := scenes.Make(4800+number, 8000)
		if at := allow.First(session.Run(slots, l), l); at != -1 {
			t.Errorf("the scene %d: step %d", number, at)
		}
	}
}

// lawful is whether b may be behind a, by the chapter, sentence by sentence.
func lawful(a, b api.Out, key int, cut bool) bool {
	f, ok := screen.Parse(b.Frame)
	held := b.Latch != 0
	alone := []bool{
		(b.Mode == fault) == held,
		b.Level >= latch.Level(b.Latch),
		(b.Level == 0) == (!held && b.Notes == 0),
		b.Open >= 0, b.Open <= 300,
		b.Open <= 0 || mode.Opens(b.Mode) && !held,
		b.Buzzer <= b.Level,
		b.Level != 3 || b.Buzzer >= 1,
		ok, f.Mode == b.Mode, f.Level == b.Level, f.Buzzer == b.Buzzer, f.Latch == b.Latch, f.Notes == b.Notes, f.Volume == b.Volume, f.Open == b.Open,
	}
	if slices.Contains(alone, false) {
		return false
	}
	if cut {
		return b.Tick == 0 && !held && b.Open == 0 && b.Pos == 300 && !b.Drop && (b.Mode == idle || b.Mode == paused)
	}
	most := a.Volume
	if b.Drop {
		most += 100
	}
	begins := a.Mode == idle && b.Mode == running
	return !slices.Contains([]bool{
		b.Tick == a.Tick+1,
		allow.Moves(a.Mode, b.Mode, key),
		!begins || b.Volume == 0,
		begins || b.Volume >= a.Volume && b.Volume <= most,
		a.Pos-b.Pos <= 1, b.Pos-a.Pos <= 1,
		key == api.KeyAck || a.Latch|b.Latch == b.Latch,
		b.Notes&4 == 0 || a.Notes&4 != 0 || a.Mode == running && b.Mode == kvo,
	}, false)
}

// P47.2: what controllers tell, changed here and there, against the sentences of
// the chapter.
func TestMayOfWhateverIsTold(t *testing.T) {
	rnd := rand.New(rand.NewSource(47))
	may, not := 0, 0
	for number := range 6 {
		slots, l := scenes.Make(4850+number, 3000)
		out := session.Run(slots, l)
		for k := range l {
			a, b := out[k], out[k+1]
			fields := []*int{&b.Tick, &b.Mode, &b.Latch, &b.Notes, &b.Level, &b.Buzzer, &b.Open, &b.Pos, &b.Volume, &a.Tick, &a.Mode, &a.Latch, &a.Notes, &a.Pos, &a.Volume}
			for range rnd.Intn(3) {
				*fields[rnd.Intn(len(fields))] += rnd.Intn(5) - 2
			}
			if rnd.Intn(3) > 0 {
				b = framed(b)
			}
			b.Drop = b.Drop != (rnd.Intn(20) == 0)
			key, cut := l[k].Raw.Key, l[k].Cut != (rnd.Intn(50) == 0)
			if rnd.Intn(10) == 0 {
				key = rnd.Intn(11)
			}
			want := lawful(a, b, key, cut)
			if got := allow.May(a, b, key, cut); got != want {
				t.Fatalf("%+v behind %+v at the key %d, cut %v: %v, want %v", b, a, key, cut, got, want)
			}
			if want {
				may++
			} else {
				not++
			}
		}
	}
	if may < 2000 || not < 2000 {
		t.Errorf("%d may be, %d may not", may, not)
	}
}

// The chapter's example.
func TestExample(t *testing.T) {
	if !allow.Moves(idle, running, api.KeyConfirm) || allow.Moves(idle, running, api.KeyStart) {
		t.Error("from ModeIdle to ModeRunning")
	}
}
