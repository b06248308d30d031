package varint_test

import (
	"encoding/binary"
	"math"
	"math/rand"
	"strings"
	"testing"

	"pinchcock/varint"
)

// top is the greatest number of all; twice that is the greatest one that is put.
const top = 1 << 53

// edges are numbers at the edges of each count of bytes, and at all limits.
func edges() []int {
	l := []int{math.MinInt, math.MaxInt, -2 * top, 2*top + 1, 2 * top, 2*top - 1, top, top + 1, top - 1, -top, -top - 1, 1 - top, 5, -5}
	for k := range 10 {
		n := 1 << (7 * k)
		l = append(l, n-1, n, n+1, -n-1, -n, 1-n, 2*n-1, 2*n, n+n/2)
	}
	return l
}

// as is the number from low to high that is nearest to n.
func as(n, low, high int) int {
	return max(low, min(n, high))
}

// P51.1: Zig and Zag, at the edges and by numbers written out.
func TestZigAndZag(t *testing.T) {
	for n, want := range map[int]int{0: 0, -1: 1, 1: 2, -2: 3, 2: 4, -3: 5, 3: 6, top: 2 * top, -top: 2*top - 1, top + 1: 2 * top, -top - 1: 2*top - 1, math.MaxInt: 2 * top, math.MinInt: 2*top - 1} {
		if got := varint.Zig(n); got != want {
			t.Errorf("Zig(%d): %d, want %d", n, got, want)
		}
	}
	for n, want := range map[int]int{0: 0, 1: -1, 2: 1, 3: -2, 4: 2, 2 * top: top, 2*top - 1: -top, 2*top + 1: top, -1: 0, -2: 0, math.MaxInt: top, math.MinInt: 0} {
		if got := varint.Zag(n); got != want {
			t.Errorf("Zag(%d): %d, want %d", n, got, want)
		}
	}
}

// P51.4: Zag turns Zig round, and the other way round.
func TestZagTurnsZigRound(t *testing.T) {
	rnd := rand.New(rand.NewSource(51))
	l := edges()
	for range 100000 {
		l = append(l, int(rnd.Uint64())>>rnd.Intn(64))
	}
	for _, n := range l {
		if got, want := varint.Zag(varint.Zig(n)), as(n, -top, top); got != want {
			t.Fatalf("Zag(Zig(%d)): %d, want %d", n, got, want)
		}
		if got, want := varint.Zig(varint.Zag(n)), as(n, 0, 2*top); got != want {
			t.Fatalf("Zig(Zag(%d)): %d, want %d", n, got, want)
		}
	}
}

// P51.2: bytes that are written out.
func TestPut(t *testing.T) {
	for n, want := range map[int]string{
		0: "\x00", 1: "\x01", 127: "\x7f", 128: "\x80\x01", 129: "\x81\x01", 255: "\xff\x01", 256: "\x80\x02", 300: "\xac\x02", 16383: "\xff\x7f", 16384: "\x80\x80\x01",
		1<<49 - 1: "\xff\xff\xff\xff\xff\xff\x7f", 1 << 49: "\x80\x80\x80\x80\x80\x80\x80\x01", 2*top - 1: "\xff\xff\xff\xff\xff\xff\xff\x1f", 2 * top: "\x80\x80\x80\x80\x80\x80\x80\x20",
		-1: "\x00", math.MinInt: "\x00", 2*top + 1: "\x80\x80\x80\x80\x80\x80\x80\x20", math.MaxInt: "\x80\x80\x80\x80\x80\x80\x80\x20",
	} {
		if got := varint.Put(n); got != want {
			t.Errorf("Put(%d): %q, want %q", n, got, want)
		}
	}
}

// P51.2 and P51.4: any number, wherever it stands, with anything behind.
func TestWhatIsPutIsTaken(t *testing.T) {
	rnd := rand.New(rand.NewSource(512))
	l := edges()
	for range 50000 {
		l = append(l, int(rnd.Uint64())>>rnd.Intn(64))
	}
	for _, n := range l {
		s := varint.Put(n)
		want := as(n, 0, 2*top)
		if s != string(binary.AppendUvarint(nil, uint64(want))) {
			t.Fatalf("Put(%d): %q", n, s)
		}
		ahead, behind := strings.Repeat("\x80", rnd.Intn(4)), string([]byte{byte(rnd.Intn(256))})[:rnd.Intn(2)]
		got, next, ok := varint.Take(ahead+s+behind, len(ahead))
		if got != want || next != len(ahead)+len(s) || !ok {
			t.Fatalf("Take(%q, %d): %d, %d, %v, want %d", ahead+s+behind, len(ahead), got, next, ok, want)
		}
		if got, next, ok := varint.Take(ahead+s[:len(s)-1], len(ahead)); got != 0 || next != 0 || ok {
			t.Fatalf("%q without its last byte: %d, %d, %v", s, got, next, ok)
		}
	}
}

// P51.3: what stands at no place, and what is no number.
func TestTakeOfNone(t *testing.T) {
	for _, r := range []struct {
		s  string
		at int
	}{
		{"", 0}, {"\x01", 1}, {"\x01", -1}, {"\x01", 2}, {"\x01", math.MinInt}, {"\x01", math.MaxInt}, {"\x01\x02\x03", -3},
		{"\x80", 0}, {"\xff\xff", 0}, {"\x01\x80", 1},
		{"\x80\x00", 0}, {"\x81\x00", 0}, {"\xff\xff\x00", 0}, {"\x80\x80\x80\x80\x80\x80\x80\x00", 0}, {"\x01\x80\x00\x01", 1},
		{"\x80\x80\x80\x80\x80\x80\x80\x80\x01", 0}, {"\xff\xff\xff\xff\xff\xff\xff\xff\x00", 0}, {"\x80\x80\x80\x80\x80\x80\x80\x80\x80\x01", 0},
		{"\x81\x80\x80\x80\x80\x80\x80\x20", 0}, {"\x80\x80\x80\x80\x80\x80\x80\x21", 0}, {"\x80\x80\x80\x80\x80\x80\x80\x40", 0}, {"\xff\xff\xff\xff\xff\xff\xff\x7f", 0},
	} {
		if n, next, ok := varint.Take(r.s, r.at); n != 0 || next != 0 || ok {
			t.Errorf("Take(%q, %d): %d, %d, %v", r.s, r.at, n, next, ok)
		}
	}
	for _, r := range []struct {
		s           string
		at, n, next int
	}{{"\x00", 0, 0, 1}, {"\x00\x00", 1, 0, 2}, {"\x80\x01", 1, 1, 2}, {"\x80\x01\x00", 0, 128, 2}, {"\xff\xff\xff\xff\xff\xff\xff\x1f", 0, 2*top - 1, 8}} {
		if n, next, ok := varint.Take(r.s, r.at); n != r.n || next != r.next || !ok {
			t.Errorf("Take(%q, %d): %d, %d, %v", r.s, r.at, n, next, ok)
		}
	}
}

// P51.3 and P51.4: of any bytes what is taken is what is put, and nothing else is.
func TestTakeOfAny(t *testing.T) {
	rnd := rand.New(rand.NewSource(513))
	took, not := 0, 0
	for range 200000 {
		b := make([]byte, rnd.Intn(11))
		for k := range b {
			b[k] = byte(rnd.Intn(256)) | byte(rnd.Intn(4)/2*128)
		}
		s, at := string(b), rnd.Intn(13)-1
		n, next, ok := varint.Take(s, at)
		if ok {
			took++
			if next > len(s) || s[at:next] != varint.Put(n) {
				t.Fatalf("Take(%q, %d): %d, %d", s, at, n, next)
			}
			continue
		}
		not++
		if n != 0 || next != 0 {
			t.Fatalf("Take(%q, %d): %d, %d beside false", s, at, n, next)
		}
		if at < 0 || at > len(s) {
			continue
		}
		// There is none just if what Go's own reader finds is not put so.
		if wide, bytes := binary.Uvarint(b[at:]); bytes > 0 && wide <= 2*top && s[at:at+bytes] == varint.Put(int(wide)) {
			t.Fatalf("Take(%q, %d): none, but there is %d", s, at, wide)
		}
	}
	if took < 10000 || not < 10000 {
		t.Errorf("%d were taken, %d not", took, not)
	}
}

// The chapter's examples.
func TestExamples(t *testing.T) {
	if n := varint.Zig(-3); n != 5 || len(varint.Put(n)) != 1 {
		t.Errorf("Zig(-3): %d", n)
	}
	if s := varint.Put(300); s != string([]byte{172, 2}) {
		t.Errorf("Put(300): %q", s)
	}
}
