package blackbox_test

import (
	"encoding/binary"
	"math"
	"math/rand"
	"slices"
	"testing"

	"pinchcock/api"
	"pinchcock/blackbox"
	"pinchcock/crc"
	"pinchcock/scenes"
	"pinchcock/screen"
	"pinchcock/session"
)

// maxTick is the greatest number that a trace may have.
const maxTick = 1 << 40

// told is what is told of a face, with its frame.
func told(tick, pos int, drop bool, f api.Face) api.Out {
	frame, ok := screen.Frame(f)
	if !ok {
		panic("a face that can't be framed")
	}
	return api.Out{Tick: tick, Mode: f.Mode, Latch: f.Latch, Notes: f.Notes, Level: f.Level, Buzzer: f.Buzzer, Open: f.Open, Pos: pos, Volume: f.Volume, Drop: drop, Frame: frame}
}

// some is a face of which no two numbers are the same.
var some = api.Face{Mode: 3, Level: 2, Buzzer: 1, Latch: 64, Notes: 8, Volume: 12345, Rate: 60, Open: 25}

// P52.1: the trace of what was told, and none of what does not come back.
func TestOf(t *testing.T) {
	for _, f := range []api.Face{{}, some, {Mode: 255, Level: 255, Buzzer: 255, Latch: 65535, Notes: 255, Volume: 1<<32 - 1, Rate: 65535, Open: 65535}} {
		for _, n := range []int{math.MinInt, -1, 0, 7, maxTick, math.MaxInt} {
			for _, drop := range []bool{false, true} {
				got, ok := blackbox.Of(told(n, -n, drop, f))
				if want := (api.Trace{Tick: n, Pos: -n, Drop: drop, Face: f}); got != want || !ok {
					t.Errorf("%+v: %+v, %v", want, got, ok)
				}
			}
		}
	}
	good := told(7, 8, true, some)
	for k, change := range []func(*api.Out){
		func(o *api.Out) { o.Mode++ }, func(o *api.Out) { o.Latch++ }, func(o *api.Out) { o.Notes++ }, func(o *api.Out) { o.Level++ }, func(o *api.Out) { o.Buzzer++ }, func(o *api.Out) { o.Open++ }, func(o *api.Out) { o.Volume++ },
		func(o *api.Out) { o.Mode += 256 }, func(o *api.Out) { o.Frame = "" }, func(o *api.Out) { o.Frame += "x" }, func(o *api.Out) { o.Frame = "E" + o.Frame[1:] }, func(o *api.Out) { *o = api.Out{} },
		func(o *api.Out) { o.Frame, _ = screen.Frame(api.Face{Mode: 4}) },
	} {
		o := good
		change(&o)
		if got, ok := blackbox.Of(o); ok || got != (api.Trace{}) {
			t.Errorf("change %d: %+v, %v", k, got, ok)
		}
	}
}

// P52.2: what is told, and nothing where the face can't be framed.
func TestBack(t *testing.T) {
	for _, n := range []int{math.MinInt, -1, 0, 7, math.MaxInt} {
		if got, want := blackbox.Back(api.Trace{Tick: n, Pos: 9, Drop: true, Face: some}), told(n, 9, true, some); got != want {
			t.Errorf("%+v, want %+v", got, want)
		}
	}
	if got, want := blackbox.Back(api.Trace{}), told(0, 0, false, api.Face{}); got != want {
		t.Errorf("nothing: %+v, want %+v", got, want)
	}
	for _, f := range []api.Face{{Mode: 256}, {Level: -1}, {Buzzer: 256}, {Latch: 65536}, {Notes: 256}, {Volume: 1 << 32}, {Rate: 65536}, {Open: -1}, {Open: math.MaxInt}} {
		if got := blackbox.Back(api.Trace{Tick: 7, Pos: 8, Drop: true, Face: f}); got != (api.Out{}) {
			t.Errorf("%+v: %+v", f, got)
		}
	}
}

// numbers are those of a trace, in their order.
func numbers(x api.Trace) []int {
	drop := 0
	if x.Drop {
		drop++
	}
	f := x.Face
	return []int{x.Tick, drop, x.Pos, f.Mode, f.Level, f.Buzzer, f.Latch, f.Notes, f.Volume, f.Rate, f.Open}
}

// wanted is what Pack is to tell of traces that can be told, by the chapter.
func wanted(l []api.Trace) string {
	b := binary.AppendUvarint(nil, uint64(len(l)))
	was := make([]int, 11)
	for _, x := range l {
		now, sum, behind := numbers(x), 0, []byte{}
		for k, n := range now {
			more := n - was[k]
			if k == 0 {
				more--
			}
			if more != 0 {
				sum += 1 << k
				// A varint of the library goes up and down in turns, too.
				behind = binary.AppendVarint(behind, int64(more))
			}
		}
		b = append(binary.AppendUvarint(b, uint64(sum)), behind...)
		was = now
	}
	return crc.Seal(string(b))
}

// hold packs traces that can be told, and unpacks them.
func hold(t *testing.T, l []api.Trace) string {
	t.Helper()
	s, ok := blackbox.Pack(l)
	if want := wanted(l); s != want || !ok {
		t.Fatalf("Pack(%+v): %q, %v, want %q", l, s, ok, want)
	}
	got, ok := blackbox.Unpack(s)
	if !ok || !slices.Equal(got, l) {
		t.Fatalf("Unpack(%q): %+v, %v, want %+v", s, got, ok, l)
	}
	return s
}

// P52.3: bytes that are written out.
func TestBytes(t *testing.T) {
	for _, r := range []struct {
		l    []api.Trace
		text string
	}{
		{nil, "\x00"},
		{[]api.Trace{{}}, "\x01\x01\x01"},
		{[]api.Trace{{Tick: 1}}, "\x01\x00"},
		{[]api.Trace{{Tick: 1}, {Tick: 2}, {Tick: 3}}, "\x03\x00\x00\x00"},
		{[]api.Trace{{Tick: 2}, {Tick: 2}}, "\x02\x01\x02\x01\x01"},
		{[]api.Trace{{Tick: 1, Drop: true}, {Tick: 2}}, "\x02\x02\x02\x02\x01"},
		{[]api.Trace{{Tick: 1, Pos: 300}, {Tick: 2, Pos: 299}}, "\x02\x04\xd8\x04\x04\x01"},
		{[]api.Trace{{Tick: 0, Pos: 1, Drop: true, Face: api.Face{Mode: 2, Level: 3, Buzzer: 4, Latch: 5, Notes: 6, Volume: 7, Rate: 8, Open: 9}}}, "\x01\xff\x0f\x01\x02\x02\x04\x06\x08\x0a\x0c\x0e\x10\x12"},
		{[]api.Trace{{Tick: 1, Face: api.Face{Open: 1}}}, "\x01\x80\x08\x02"},
	} {
		if got := hold(t, r.l); got != crc.Seal(r.text) {
			t.Errorf("%+v: %q, want %q", r.l, got, crc.Seal(r.text))
		}
	}
}

// field is the number of a trace at a place, but the drop.
func field(x *api.Trace, place int) *int {
	f := &x.Face
	return []*int{&x.Tick, &x.Pos, &f.Mode, &f.Level, &f.Buzzer, &f.Latch, &f.Notes, &f.Volume, &f.Rate, &f.Open}[place]
}

// P52.3: each number at its ends, and beyond.
func TestNumbersAtTheirEnds(t *testing.T) {
	for place := range 10 {
		for _, n := range []int{0, 1, maxTick - 1, maxTick} {
			l := []api.Trace{{Tick: 5}, {Tick: 6}, {Tick: 7}}
			*field(&l[1], place) = n
			hold(t, l)
		}
		for _, n := range []int{-1, math.MinInt, maxTick + 1, math.MaxInt} {
			for at := range 3 {
				l := []api.Trace{{Tick: 5}, {Tick: 6}, {Tick: 7}}
				*field(&l[at], place) = n
				if s, ok := blackbox.Pack(l); s != "" || ok {
					t.Errorf("%+v: %q, %v", l, s, ok)
				}
			}
		}
	}
}

// P52.3 and P52.4: traces that are as unlike as they can be.
func TestAnyTraces(t *testing.T) {
	rnd := rand.New(rand.NewSource(52))
	for range 3000 {
		l := make([]api.Trace, rnd.Intn(20))
		for k := range l {
			if k > 0 {
				l[k] = l[k-1]
				l[k].Tick = min(l[k].Tick+1, maxTick)
			}
			for range rnd.Intn(4) {
				*field(&l[k], rnd.Intn(10)) = rnd.Intn(maxTick+1) >> rnd.Intn(41)
			}
			l[k].Drop = rnd.Intn(3) == 0
		}
		hold(t, l)
	}
}

// P52.3: 20000 traces at the most.
func TestHowMany(t *testing.T) {
	l := make([]api.Trace, 20001)
	for k := range l {
		l[k].Tick = k + 1
	}
	s := hold(t, l[:20000])
	if len(s) != 3+20000+2 {
		t.Errorf("%d bytes", len(s))
	}
	if s, ok := blackbox.Pack(l); s != "" || ok {
		t.Errorf("one more: %d bytes, %v", len(s), ok)
	}
	text, _ := crc.Open(wanted(l))
	if got, ok := blackbox.Unpack(crc.Seal(text)); got != nil || ok {
		t.Errorf("one more: %d traces, %v", len(got), ok)
	}
}

// P52.4: bytes that are no traces.
func TestWhatIsNoTraces(t *testing.T) {
	for name, text := range map[string]string{
		"nothing":                    "",
		"no count":                   "\x80",
		"a needless 0 of the count":  "\x81\x00\x00",
		"too few":                    "\x02\x00",
		"too many":                   "\x01\x00\x00",
		"a byte behind none":         "\x00\x00",
		"a place that there is not":  "\x01\x80\x10\x02",
		"that place alone":           "\x01\x80\x10",
		"that place, and more told":  "\x04\x80\x10",
		"a greater place":            "\x01\x81\x20\x02\x02",
		"a mark alone, and more":     "\x02\x02",
		"no marks":                   "\x01\x80",
		"a needless 0 of the marks":  "\x01\x80\x00",
		"a mark without a number":    "\x01\x01",
		"a number that is none":      "\x01\x04\x80",
		"a needless 0 of a number":   "\x01\x04\x82\x00",
		"a mark without a change":    "\x01\x04\x00",
		"below 0":                    "\x01\x04\x01",
		"the tick below 0":           "\x01\x01\x03",
		"below 0, later":             "\x02\x04\x02\x04\x03",
		"a drop of 2":                "\x01\x02\x04",
		"a drop below 0":             "\x01\x02\x01",
		"a drop of 2, later":         "\x02\x02\x02\x02\x02",
		"a position beyond":          "\x01\x04\x82\x80\x80\x80\x80\x40",
		"a tick beyond":              "\x01\x01\x80\x80\x80\x80\x80\x40",
		"a tick behind the greatest": "\x02\x01\xfe\xff\xff\xff\xff\x3f\x00",
		"a count beyond":             "\xa1\x9c\x01",
		"the greatest count":         "\x80\x80\x80\x80\x80\x80\x80\x20",
	} {
		if l, ok := blackbox.Unpack(crc.Seal(text)); l != nil || ok {
			t.Errorf("%s: %+v, %v", name, l, ok)
		}
	}
	for _, s := range []string{"", "\x00", "\x00\x00\x00", crc.Seal("\x00") + "\x00", crc.Seal("\x01\x00")[1:]} {
		if l, ok := blackbox.Unpack(s); l != nil || ok {
			t.Errorf("%q: %+v, %v", s, l, ok)
		}
	}
	// A tick that is the greatest one, and a position that is, may be.
	hold(t, []api.Trace{{Tick: maxTick, Pos: maxTick}, {Tick: maxTick, Pos: 0}})
}

// P52.4: whatever bytes there are under a right sum are traces just if these are
// packed so.
func TestOtherBytes(t *testing.T) {
	rnd := rand.New(rand.NewSource(524))
	right := 0
	for number := range 20 {
		slots, l := scenes.Make(5200+number, 60)
		var traces []api.Trace
		for _, o := range session.Run(slots, l) {
			trace, _ := blackbox.Of(o)
			traces = append(traces, trace)
		}
		text, _ := crc.Open(hold(t, traces))
		for range 2000 {
			b := []byte(text)
			for range 1 + rnd.Intn(2) {
				b[rnd.Intn(len(b))] = byte(rnd.Intn(256) >> rnd.Intn(8))
			}
			s := crc.Seal(string(b))
			got, ok := blackbox.Unpack(s)
			if !ok && got != nil {
				t.Fatalf("%q: %+v beside false", b, got)
			}
			if ok {
				right++
				if again, packed := blackbox.Pack(got); !packed || again != s {
					t.Fatalf("%q is unpacked as %+v, and packed as %q", s, got, again)
				}
			}
		}
	}
	if right < 500 {
		t.Errorf("%d were traces", right)
	}
}

// P52.5: whatever a controller told comes back, and a tick in which nothing changed
// is one byte.
func TestWhateverWasTold(t *testing.T) {
	for number := range 8 {
		slots, l := scenes.Make(5250+number, 5000)
		out := session.Run(slots, l)
		var traces []api.Trace
		still := 0
		for k, o := range out {
			x, ok := blackbox.Of(o)
			if !ok {
				t.Fatalf("no trace of %+v", o)
			}
			traces = append(traces, x)
			if k == 0 {
				continue
			}
			was := out[k-1]
			if was.Tick++; was == o && k%50 == 0 && k > 127 {
				still++
				one, _ := blackbox.Pack(traces[:k])
				two, _ := blackbox.Pack(traces)
				if len(two) != len(one)+1 {
					t.Fatalf("tick %d: %d bytes, and %d", k, len(one), len(two))
				}
			}
		}
		got, ok := blackbox.Unpack(hold(t, traces))
		if !ok || len(got) != len(out) || still < 20 {
			t.Fatalf("%d of %d, %d still", len(got), len(out), still)
		}
		for k := range out {
			if blackbox.Back(got[k]) != out[k] {
				t.Fatalf("%+v became %+v", out[k], blackbox.Back(got[k]))
			}
		}
	}
}

// The chapter's example.
func TestExample(t *testing.T) {
	if s, ok := blackbox.Pack(nil); s != crc.Seal("\x00") || !ok {
		t.Errorf("%q, %v", s, ok)
	}
}
