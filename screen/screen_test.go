package screen_test

import (
	"fmt"
	"math"
	"math/rand"
	"strings"
	"testing"

	"pinchcock/api"
	"pinchcock/screen"
)

// some is a face that can be framed.
func some() api.Face {
	return api.Face{Mode: 3, Level: 2, Buzzer: 1, Latch: 192, Notes: 5, Volume: 12345, Rate: 60, Open: 25}
}

// field is one of a face, and the greatest number that it has room for.
type field struct {
	of   func(f *api.Face) *int
	most int
}

// fields are all of them, in the order in which they are packed.
func fields() []field {
	return []field{
		{func(f *api.Face) *int { return &f.Mode }, 255}, {func(f *api.Face) *int { return &f.Level }, 255}, {func(f *api.Face) *int { return &f.Buzzer }, 255}, {func(f *api.Face) *int { return &f.Latch }, 65535},
		{func(f *api.Face) *int { return &f.Notes }, 255}, {func(f *api.Face) *int { return &f.Volume }, 1<<32 - 1}, {func(f *api.Face) *int { return &f.Rate }, 65535}, {func(f *api.Face) *int { return &f.Open }, 65535},
	}
}

// bytes are n in so many of them, the highest first.
func bytes(n, width int) string {
	s := ""
	for range width {
		s = string([]byte{byte(n)}) + s
		n >>= 8
	}
	return s
}

// sealed is a text with its sum of sixteen bits behind it: that of 0x1021, which
// begins with all bits.
func sealed(s string) string {
	sum := 0xFFFF
	for k := range 8 * len(s) {
		bit := int(s[k/8]) >> (7 - k%8) & 1
		high := sum >> 15 & 1
		sum = sum << 1 & 0xFFFF
		if bit != high {
			sum ^= 0x1021
		}
	}
	return s + bytes(sum, 2)
}

// wanted is what Frame is to tell.
func wanted(f api.Face) (string, bool) {
	row := "D"
	for _, k := range fields() {
		n := *k.of(&f)
		if n < 0 || n > k.most {
			return "", false
		}
		width := 1
		for k.most>>(8*width) > 0 {
			width++
		}
		row += bytes(n, width)
	}
	return sealed(row), true
}

// frame runs Frame, and Parse of what it tells, and holds both against what is
// wanted.
func frame(t *testing.T, f api.Face) {
	t.Helper()
	want, ok := wanted(f)
	s, is := screen.Frame(f)
	if s != want || is != ok {
		t.Fatalf("Frame(%+v): %q, %v, want %q, %v", f, s, is, want, ok)
	}
	if !ok {
		return
	}
	if got, is := screen.Parse(s); !is || got != f {
		t.Fatalf("Parse(%q): %+v, %v, want %+v", s, got, is, f)
	}
}

// none is of a text that is no frame.
func none(t *testing.T, s string) {
	t.Helper()
	if got, is := screen.Parse(s); is || got != (api.Face{}) {
		t.Fatalf("Parse(%q): %+v, %v", s, got, is)
	}
}

// P43.1: the bytes, written out.
func TestFrame(t *testing.T) {
	s, ok := screen.Frame(some())
	if row := "D\x03\x02\x01\x00\xc0\x05\x00\x00\x30\x39\x00\x3c\x00\x19"; !ok || len(s) != 17 || s != sealed(row) {
		t.Errorf("Frame: %q, %v", s, ok)
	}
	if s := sealed("123456789"); s != "123456789\x29\xb1" {
		t.Errorf("the sum that these tests reckon is another one: %q", s)
	}
	frame(t, api.Face{})
}

// P43.1: field by field, as far as there is room, and beyond.
func TestFrameFieldByField(t *testing.T) {
	for _, k := range fields() {
		for _, n := range []int{0, 1, 127, 128, 255, 256, 257, 65535, 65536, 1<<32 - 1, 1 << 32, 1<<32 + 5, 1 << 62, math.MaxInt, -1, -256, math.MinInt, k.most - 1, k.most, k.most + 1} {
			f := some()
			*k.of(&f) = n
			frame(t, f)
			f = api.Face{}
			*k.of(&f) = n
			frame(t, f)
		}
	}
}

// anyFace is one that can be framed.
func anyFace(rnd *rand.Rand) api.Face {
	f := api.Face{}
	for _, k := range fields() {
		*k.of(&f) = rnd.Intn(k.most + 1)
	}
	return f
}

// P43.1, P43.2 and P43.5: what is framed is parsed as it was.
func TestWhatIsFramedIsParsed(t *testing.T) {
	rnd := rand.New(rand.NewSource(435))
	for range 5000 {
		frame(t, anyFace(rnd))
	}
}

// P43.2: no other text is a frame: none that is cut, or longer, or begins with
// another byte.
func TestParseOfNone(t *testing.T) {
	s, _ := wanted(some())
	for k := range s {
		none(t, s[:k])
		none(t, s[k+1:])
		if k < 15 {
			none(t, sealed(s[:k]))
			none(t, sealed(s[k+1:15]))
		}
	}
	for _, other := range []string{"\x00", "D", s, "DD"} {
		none(t, s+other)
		none(t, other+s)
		none(t, sealed(s[:15]+other))
		none(t, sealed(other+s[:15]))
	}
	for b := range 256 {
		if b != 'D' {
			none(t, sealed(string([]byte{byte(b)})+s[1:15]))
		}
	}
	none(t, sealed(""))
	none(t, sealed("D"))
	none(t, sealed(s))
	none(t, "nothing at all that")
}

// P43.5: a frame of which a byte is another one is none.
func TestAnotherByte(t *testing.T) {
	rnd := rand.New(rand.NewSource(436))
	for _, f := range []api.Face{some(), {}, anyFace(rnd), anyFace(rnd)} {
		s, _ := wanted(f)
		for k := range s {
			for b := range 256 {
				if byte(b) != s[k] {
					none(t, s[:k]+string([]byte{byte(b)})+s[k+1:])
				}
			}
		}
	}
}

// P43.3: millilitres, a point and three digits.
func TestVolume(t *testing.T) {
	rows := []struct {
		v    int
		want string
	}{
		{0, "0.000 mL"}, {1, "0.001 mL"}, {10, "0.010 mL"}, {100, "0.100 mL"}, {999, "0.999 mL"}, {1000, "1.000 mL"}, {1001, "1.001 mL"}, {9999, "9.999 mL"}, {10000, "10.000 mL"}, {10010, "10.010 mL"}, {12345, "12.345 mL"}, {100000, "100.000 mL"}, {1000000, "1000.000 mL"}, {1000001, "1000.001 mL"}, {10000000, "10000.000 mL"}, {20304050, "20304.050 mL"}, {99999998, "99999.998 mL"}, {99999999, "99999.999 mL"},
		{100000000, "99999.999 mL"}, {1 << 32, "99999.999 mL"}, {math.MaxInt, "99999.999 mL"}, {-1, "0.000 mL"}, {-1000, "0.000 mL"}, {math.MinInt, "0.000 mL"},
	}
	for _, r := range rows {
		if got := screen.Volume(r.v); got != r.want {
			t.Errorf("Volume(%d): %q, want %q", r.v, got, r.want)
		}
	}
	rnd := rand.New(rand.NewSource(433))
	for k := range 100000 {
		v := k
		if k >= 20000 {
			v = rnd.Intn(100000000) / []int{1, 10, 100, 1000}[k%4]
		}
		if got, want := screen.Volume(v), fmt.Sprintf("%d.%03d mL", v/1000, v%1000); got != want {
			t.Fatalf("Volume(%d): %q, want %q", v, got, want)
		}
	}
}

// P43.6: unlike volumes are shown by unlike texts.
func TestUnlikeVolumes(t *testing.T) {
	was := map[string]int{}
	for v := 0; v <= 99999999; v += 1 + v/1000 {
		s := screen.Volume(v)
		if other, is := was[s]; is {
			t.Fatalf("%q of %d and of %d", s, other, v)
		}
		was[s] = v
	}
}

// wantedText is what Text is to tell.
func wantedText(f api.Face) string {
	modes := []string{"?", "IDLE", "PRIMING", "RUNNING", "PAUSED", "KVO", "DONE", "FAULT"}
	hazards := []string{"STREAM", "FREE", "OVER", "UNDER", "LOSS", "EMPTY", "TILT", "DOOR", "BATTERY", "STALL", "SENSOR", "MATH"}
	m, v := 0, min(max(f.Volume, 0), 99999999)
	if f.Mode > 0 && f.Mode < 8 {
		m = f.Mode
	}
	s := fmt.Sprintf("%s %d.%03d mL", modes[m], v/1000, v%1000)
	if m == 3 || m == 5 {
		s += fmt.Sprintf(" %d mL/h", min(max(f.Rate, 0), 9999))
	}
	s += "\n"
	names := ""
	for k, name := range hazards {
		if f.Latch>>k&1 == 1 {
			names += " " + name
		}
	}
	if names != "" {
		s += "!" + names + "\n"
	}
	return s
}

// P43.4: the mode, the volume, the rate where it infuses, and the hazards.
func TestText(t *testing.T) {
	rows := []struct {
		f    api.Face
		want string
	}{
		{api.Face{}, "? 0.000 mL\n"}, {api.Face{Mode: 1}, "IDLE 0.000 mL\n"}, {api.Face{Mode: 2, Rate: 60}, "PRIMING 0.000 mL\n"}, {some(), "RUNNING 12.345 mL 60 mL/h\n! TILT DOOR\n"}, {api.Face{Mode: 4, Volume: 7, Rate: 60}, "PAUSED 0.007 mL\n"}, {api.Face{Mode: 5, Volume: 100000, Rate: 5}, "KVO 100.000 mL 5 mL/h\n"}, {api.Face{Mode: 6, Latch: 2}, "DONE 0.000 mL\n! FREE\n"}, {api.Face{Mode: 7, Latch: 4095}, "FAULT 0.000 mL\n! STREAM FREE OVER UNDER LOSS EMPTY TILT DOOR BATTERY STALL SENSOR MATH\n"}, {api.Face{Mode: 8}, "? 0.000 mL\n"}, {api.Face{Mode: -1}, "? 0.000 mL\n"},
		{api.Face{Mode: 3, Rate: 0}, "RUNNING 0.000 mL 0 mL/h\n"}, {api.Face{Mode: 3, Rate: -1}, "RUNNING 0.000 mL 0 mL/h\n"}, {api.Face{Mode: 3, Rate: 9999}, "RUNNING 0.000 mL 9999 mL/h\n"}, {api.Face{Mode: 3, Rate: 10000}, "RUNNING 0.000 mL 9999 mL/h\n"}, {api.Face{Mode: 3, Rate: math.MaxInt, Volume: math.MaxInt}, "RUNNING 99999.999 mL 9999 mL/h\n"}, {api.Face{Mode: 3, Rate: math.MinInt, Volume: math.MinInt}, "RUNNING 0.000 mL 0 mL/h\n"},
		{api.Face{Mode: 1, Latch: 4096}, "IDLE 0.000 mL\n"}, {api.Face{Mode: 1, Latch: 4097}, "IDLE 0.000 mL\n! STREAM\n"}, {api.Face{Mode: 1, Latch: math.MinInt}, "IDLE 0.000 mL\n"}, {api.Face{Mode: math.MinInt, Latch: math.MinInt + 2048}, "? 0.000 mL\n! MATH\n"}, {api.Face{Mode: 1, Level: 3, Buzzer: 3, Notes: 15, Open: 300}, "IDLE 0.000 mL\n"},
	}
	for _, r := range rows {
		if got := screen.Text(r.f); got != r.want || got != wantedText(r.f) {
			t.Errorf("Text(%+v): %q, want %q", r.f, got, r.want)
		}
	}
}

// P43.4: of each latch, in each mode.
func TestTextOfEachLatch(t *testing.T) {
	rnd := rand.New(rand.NewSource(434))
	for latch := range 8192 {
		f := api.Face{Mode: latch % 9, Latch: latch, Volume: rnd.Intn(100000), Rate: rnd.Intn(20000) - 5000}
		if got := screen.Text(f); got != wantedText(f) || strings.Count(got, "\n") > 2 {
			t.Fatalf("Text(%+v): %q, want %q", f, got, wantedText(f))
		}
	}
}

// R4: nothing is kept from call to call.
func TestNothingIsKept(t *testing.T) {
	for range 3 {
		frame(t, some())
		none(t, "")
		if got := screen.Text(some()); got != wantedText(some()) {
			t.Errorf("%q", got)
		}
	}
}

// The chapter's example: 12345 microlitres.
func TestExample(t *testing.T) {
	if got := screen.Volume(12345); got != "12.345 mL" {
		t.Errorf("%q", got)
	}
}
