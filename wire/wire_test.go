package wire_test

import (
	"encoding/binary"
	"math"
	"math/rand"
	"slices"
	"strings"
	"testing"

	"pinchcock/api"
	"pinchcock/crc"
	"pinchcock/reals"
	"pinchcock/scenes"
	"pinchcock/session"
	"pinchcock/wire"
)

// wild are real numbers of all kinds, at their edges.
var wild = []float64{
	math.NaN(), math.Inf(-1), math.Inf(1), math.Copysign(0, -1), 0, 1, -1, 0.5, 3000, 4095, math.MaxFloat64, -math.MaxFloat64, math.SmallestNonzeroFloat64, -math.SmallestNonzeroFloat64,
	math.Float64frombits(0x7FF0000000000001), math.Float64frombits(0xFFF8000000000123), 1e300, 0.1, 1 << 53,
}

// tick is a step with a raw record.
func tick(adc, tilt, battery, encoder float64, door, write bool, key int) api.Step {
	return api.Step{Raw: api.Raw{Adc: adc, Tilt: tilt, Battery: battery, Encoder: encoder, Door: door, Write: write, Key: key}}
}

// cut is a power cut.
func cut(torn string) api.Step {
	return api.Step{Cut: true, Torn: torn}
}

// number is a real number as bytes, by the chapter.
func number(x float64) string {
	switch {
	case x != x:
		return "\x01"
	case math.IsInf(x, -1):
		return "\x02"
	case math.IsInf(x, 1):
		return "\x03"
	case x == 0 && math.Signbit(x):
		return "\x04"
	case x == 0:
		return "\x05"
	}
	return "\x06" + string(binary.BigEndian.AppendUint64(nil, math.Float64bits(x)))
}

// wanted is what Put is to tell of a script that can be told, by the chapter.
func wanted(l []api.Step) string {
	text := ""
	for _, x := range l {
		if x.Cut {
			text += "\x01" + string([]byte{byte(len(x.Torn))}) + x.Torn
			continue
		}
		r, truths := x.Raw, byte(0)
		if r.Door {
			truths++
		}
		if r.Write {
			truths += 2
		}
		text += "\x00" + number(r.Adc) + number(r.Tilt) + number(r.Battery) + number(r.Encoder) + string([]byte{truths, byte(r.Key)})
	}
	return crc.Seal(text)
}

// same tells whether two real numbers are the same, as far as reals.Order tells.
func same(a, b float64) bool {
	return reals.Order(a, b) == 0
}

// alike tells whether a step is what comes of another one that went over the wire.
func alike(got, x api.Step) bool {
	if x.Cut {
		return got == cut(x.Torn)
	}
	r, g := x.Raw, got.Raw
	return !got.Cut && got.Torn == "" && same(g.Adc, r.Adc) && same(g.Tilt, r.Tilt) && same(g.Battery, r.Battery) && same(g.Encoder, r.Encoder) && g.Door == r.Door && g.Write == r.Write && g.Key == r.Key
}

// hold puts a script that can be told, and gets it again.
func hold(t *testing.T, l []api.Step) string {
	t.Helper()
	s, ok := wire.Put(l)
	if want := wanted(l); !ok || s != want {
		t.Fatalf("Put(%+v): %q, %v, want %q", l, s, ok, want)
	}
	got, ok := wire.Get(s)
	if !ok || len(got) != len(l) {
		t.Fatalf("Get(%q): %+v, %v, want %+v", s, got, ok, l)
	}
	for k := range l {
		if !alike(got[k], l[k]) {
			t.Fatalf("Get(%q): step %d is %+v, want %+v", s, k, got[k], l[k])
		}
	}
	if again, ok := wire.Put(got); !ok || again != s {
		t.Fatalf("put again: %q, want %q", again, s)
	}
	return s
}

// tellable is a script that can be told: cuts may leave more than there is room
// for, and keys be none.
func tellable(l []api.Step) []api.Step {
	for k := range l {
		l[k].Torn = l[k].Torn[:min(len(l[k].Torn), 64)]
		l[k].Raw.Key = max(l[k].Raw.Key, 0)
	}
	return l
}

// P50.1: bytes that are written out.
func TestBytes(t *testing.T) {
	for _, r := range []struct {
		l    []api.Step
		text string
	}{
		{nil, ""},
		{[]api.Step{cut("")}, "\x01\x00"},
		{[]api.Step{cut("abc")}, "\x01\x03abc"},
		{[]api.Step{{}}, "\x00\x05\x05\x05\x05\x00\x00"},
		{[]api.Step{tick(math.NaN(), math.Inf(-1), math.Inf(1), math.Copysign(0, -1), true, false, 1)}, "\x00\x01\x02\x03\x04\x01\x01"},
		{[]api.Step{tick(1, 0, -2.5, 0, false, true, 255)}, "\x00\x06\x3f\xf0\x00\x00\x00\x00\x00\x00\x05\x06\xc0\x04\x00\x00\x00\x00\x00\x00\x05\x02\xff"},
		{[]api.Step{tick(0, 0, 0, 0, true, true, 10), cut("\x00"), {}}, "\x00\x05\x05\x05\x05\x03\x0a\x01\x01\x00\x00\x05\x05\x05\x05\x00\x00"},
	} {
		if got := hold(t, r.l); got != crc.Seal(r.text) {
			t.Errorf("%+v: %q, want %q", r.l, got, crc.Seal(r.text))
		}
	}
}

// P50.1: a cut tells nothing of a record, a tick nothing of bytes.
func TestWhatIsNotTold(t *testing.T) {
	odd := cut("x")
	odd.Raw = api.Raw{Adc: 7, Key: -1, Door: true}
	plain := tick(3000, 0, 0, 0, false, false, 0)
	plain.Torn = strings.Repeat("x", 99)
	hold(t, []api.Step{odd, plain})
}

// P50.1: what can't be told.
func TestWhatCannotBeTold(t *testing.T) {
	long := strings.Repeat("x", 64)
	hold(t, []api.Step{cut(long)})
	many := slices.Repeat([]api.Step{cut("")}, 320)
	hold(t, many)
	hold(t, slices.Repeat([]api.Step{tick(1, 2, 3, 4, true, true, 5)}, 320))
	for name, l := range map[string][]api.Step{
		"65 bytes":        {cut(long + "x")},
		"65 bytes, later": {{}, cut("x"), cut(long + "x")},
		"321 steps":       append(many, cut("")),
		"321 ticks":       make([]api.Step, 321),
		"a key below 0":   {{Raw: api.Raw{Key: -1}}},
		"the key 256":     {{}, {Raw: api.Raw{Key: 256}}},
		"a great key":     {{Raw: api.Raw{Key: math.MaxInt}}},
		"a least key":     {{Raw: api.Raw{Key: math.MinInt}}},
	} {
		if s, ok := wire.Put(l); s != "" || ok {
			t.Errorf("%s: %q, %v", name, s, ok)
		}
	}
	for key := range 256 {
		hold(t, []api.Step{{Raw: api.Raw{Key: key}}})
	}
}

// P50.1 and P50.3: real numbers of all kinds, each in each field.
func TestRealNumbers(t *testing.T) {
	for _, a := range wild {
		for _, b := range wild {
			hold(t, []api.Step{tick(a, b, a, b, false, true, 3), tick(b, b, b, a, true, false, 0)})
		}
	}
	rnd := rand.New(rand.NewSource(50))
	for range 20000 {
		x := math.Float64frombits(rnd.Uint64())
		hold(t, []api.Step{tick(x, -x, x/2, 0, false, false, 0)})
	}
}

// P50.2: bytes that are no script.
func TestWhatIsNoScript(t *testing.T) {
	plain := "\x06\x3f\xf0\x00\x00\x00\x00\x00\x00"
	bits := func(n uint64) string { return "\x06" + string(binary.BigEndian.AppendUint64(nil, n)) }
	for name, text := range map[string]string{
		"another step":              "\x02",
		"another step behind":       "\x01\x00\xff",
		"a cut alone":               "\x01",
		"too few bytes":             "\x01\x03ab",
		"too many bytes":            "\x01\x41" + strings.Repeat("x", 65),
		"a tick alone":              "\x00",
		"no kind 0":                 "\x00\x00\x05\x05\x05\x00\x00",
		"no kind 7":                 "\x00\x07\x05\x05\x05\x00\x00",
		"the last one of no kind":   "\x00\x05\x05\x05\x00\x00\x00",
		"too few reals":             "\x00\x05\x05\x05",
		"no truths":                 "\x00\x05\x05\x05\x05",
		"no key":                    "\x00\x05\x05\x05\x05\x00",
		"too great truths":          "\x00\x05\x05\x05\x05\x04\x00",
		"greater truths":            "\x00\x05\x05\x05\x05\xff\x00",
		"a part of a real":          "\x00" + plain[:8],
		"a part of the last real":   "\x00\x05\x05\x05" + plain[:5],
		"a nought as plain":         "\x00" + bits(0) + "\x05\x05\x05\x00\x00",
		"a nought below as plain":   "\x00" + bits(1<<63) + "\x05\x05\x05\x00\x00",
		"no number as plain":        "\x00" + bits(0x7FF8000000000001) + "\x05\x05\x05\x00\x00",
		"a signal as plain":         "\x00" + bits(0x7FF0000000000001) + "\x05\x05\x05\x00\x00",
		"beyond as plain":           "\x00" + bits(0x7FF0000000000000) + "\x05\x05\x05\x00\x00",
		"below all bounds as plain": "\x00" + bits(0xFFF0000000000000) + "\x05\x05\x05\x00\x00",
		"a byte behind":             "\x00\x05\x05\x05\x05\x00\x00\x00",
		"321 cuts":                  strings.Repeat("\x01\x00", 321),
		"321 ticks":                 strings.Repeat("\x00\x05\x05\x05\x05\x00\x00", 321),
	} {
		if l, ok := wire.Get(crc.Seal(text)); l != nil || ok {
			t.Errorf("%s: %+v, %v", name, l, ok)
		}
	}
	for _, s := range []string{"", "\xff", "\x01\x00", "\x01\x00\xff\xff", crc.Seal("\x01\x00") + "\x00"} {
		if l, ok := wire.Get(s); l != nil || ok {
			t.Errorf("%q: %+v, %v", s, l, ok)
		}
	}
	if l, ok := wire.Get("\xff\xff"); len(l) != 0 || !ok {
		t.Errorf("no steps: %v, %v", l, ok)
	}
}

// P50.2 and P50.3: bytes of which one is another one are a script just if that
// puts them, whatever their sum is.
func TestOtherBytes(t *testing.T) {
	rnd := rand.New(rand.NewSource(502))
	right := 0
	for scene := range 40 {
		_, l := scenes.Make(5000+scene, 6)
		s := hold(t, append(tellable(l), cut("ab"), tick(math.NaN(), 1, 0, math.Inf(1), true, true, 9)))
		for range 400 {
			b := []byte(s)
			at := rnd.Intn(len(b))
			b[at] = byte(rnd.Intn(256))
			if got, ok := wire.Get(string(b)); ok != (string(b) == s) {
				t.Fatalf("%q, a byte of %q: %+v", b, s, got)
			}
			text := string(b[:len(b)-2])
			if rnd.Intn(3) == 0 {
				text = text[:rnd.Intn(len(text))]
			}
			got, ok := wire.Get(crc.Seal(text))
			if !ok && got != nil {
				t.Fatalf("%q: %+v beside false", text, got)
			}
			if ok {
				right++
				if again, put := wire.Put(got); !put || again != crc.Seal(text) {
					t.Fatalf("%q is got as %+v, and put as %q", text, got, again)
				}
			}
		}
	}
	if right < 500 {
		t.Errorf("%d scripts alone", right)
	}
}

// P50.4: a script that went over the wire comes to the same.
func TestItComesToTheSame(t *testing.T) {
	for scene := range 40 {
		slots, l := scenes.Make(5050+scene, 320)
		l = tellable(l)
		got, _ := wire.Get(hold(t, l))
		if !slices.Equal(session.Run(slots, got), session.Run(slots, l)) {
			t.Fatalf("the scene %d", scene)
		}
	}
}

// The chapter's example.
func TestExample(t *testing.T) {
	if s, ok := wire.Put([]api.Step{cut("")}); !ok || s != crc.Seal("\x01\x00") {
		t.Errorf("%q, %v", s, ok)
	}
}
