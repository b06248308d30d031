package crc_test

import (
	"math/big"
	"math/rand"
	"strings"
	"testing"

	"pinchcock/crc"
)

// digits is the text of the chapter's example.
const digits = "123456789"

// starts are sums to go on from: each bit alone, and what lies at the edges.
func starts() []uint16 {
	all := []uint16{0, 0xFFFF, 0x1021, 0x29B1, 0x1D0F, 0x7FFF, 0xEFDE, 0x00FF, 0xFF00, 0xAAAA, 0x5555}
	for place := range 16 {
		all = append(all, 1<<place, ^(1 << place))
	}
	return all
}

// texts are texts, and bytes that are no text.
func texts() []string {
	rnd := rand.New(rand.NewSource(6))
	all := []string{
		"", "\x00", "\x00\x00", "\x00\x00\x00\x00", "\xff", "\xff\xff", "\xff\xff\x00", "\xff\xff\x00\x00", "A", "a", digits,
		"abc", "cba", "tröpfchen", "点滴", "\x80", "\xc3", "\xed\xa0\x80", "\xf8\x88\x80\x80\x80", " \t\r\n", "\x29\xb1",
		digits + "\x29\xb1", strings.Repeat("\x00", 300), strings.Repeat("\xff", 300), strings.Repeat("drip ", 100),
	}
	for length := 1; length < 40; length++ {
		all = append(all, noise(rnd, length))
	}
	return append(all, noise(rnd, 255), noise(rnd, 256), noise(rnd, 257), noise(rnd, 2000))
}

// noise is a text of so many bytes, each of them any.
func noise(rnd *rand.Rand, length int) string {
	b := make([]byte, length)
	rnd.Read(b)
	return string(b)
}

// divided is what is left of c, with s behind it and sixteen noughts behind
// that, when it is divided as a polynomial by x^16 + x^12 + x^5 + 1: the other
// way to come to a sum, in which no bit leaves anything.
func divided(c uint16, s string) uint16 {
	n := new(big.Int).SetBytes([]byte(s))
	n.Lsh(n, 16)
	ahead := new(big.Int).Lsh(big.NewInt(int64(c)), uint(8*len(s)))
	n.Xor(n, ahead)
	for n.BitLen() > 16 {
		by := new(big.Int).Lsh(big.NewInt(0x11021), uint(n.BitLen()-17))
		n.Xor(n, by)
	}
	return uint16(n.Uint64())
}

// changed is s, with the byte at a place taken exclusive or.
func changed(s string, place int, by byte) string {
	b := []byte(s)
	b[place] ^= by
	return string(b)
}

// shut checks that s is not opened.
func shut(t *testing.T, s string) {
	t.Helper()
	if inside, ok := crc.Open(s); ok || inside != "" {
		t.Fatalf("Open(%q): %q, %v", s, inside, ok)
	}
}

// opened checks that s is opened, and what is inside.
func opened(t *testing.T, s, want string) {
	t.Helper()
	if inside, ok := crc.Open(s); !ok || inside != want {
		t.Fatalf("Open(%q): %q, %v, want %q", s, inside, ok, want)
	}
}

// P6.1: sums that are known, bit by bit and byte by byte.
func TestMore(t *testing.T) {
	for _, r := range []struct {
		c    uint16
		s    string
		want uint16
	}{
		{0, "\x00", 0}, {0, "\x01", 0x1021}, {0, "\x02", 0x2042}, {0, "\x04", 0x4084}, {0, "\x08", 0x8108},
		{0, "\x10", 0x1231}, {0, "\x80", 0x9188}, {0, "\xff", 0x1EF0}, {1, "\x00", 0x0100}, {0x0100, "\x00", 0x1021},
		{0x8000, "\x00", 0x9188}, {0x8000, "\x80", 0}, {0xFF00, "\xff", 0}, {0xFFFF, "\xff", 0xFF00}, {0x0080, "\x00", 0x8000},
		{0, digits, 0x31C3}, {0xFFFF, digits, 0x29B1}, {0x1D0F, digits, 0xE5CC}, {0xFFFF, "A", 0xB915}, {0x1D0F, "A", 0x9479},
		{0, "\x01\x00", 0x3331}, {0, "\x00\x01", 0x1021}, {0xABCD, "\xab\xcd", 0},
	} {
		if got := crc.More(r.c, r.s); got != r.want {
			t.Errorf("More(%04X, %q): %04X, want %04X", r.c, r.s, got, r.want)
		}
	}
}

// P6.1: nothing goes through, and nothing is changed.
func TestMoreOfNothing(t *testing.T) {
	for c := range 1 << 16 {
		if got := crc.More(uint16(c), ""); got != uint16(c) {
			t.Fatalf("More(%04X, nothing): %04X", c, got)
		}
	}
}

// P6.1: each byte behind each sum.
func TestMoreOfEachByte(t *testing.T) {
	for c := range 1 << 16 {
		b := byte(c*7 + c>>8)
		if got, want := crc.More(uint16(c), string([]byte{b})), divided(uint16(c), string([]byte{b})); got != want {
			t.Fatalf("More(%04X, %02X): %04X, want %04X", c, b, got, want)
		}
	}
	for _, c := range starts() {
		for b := range 256 {
			s := string([]byte{byte(b)})
			if got, want := crc.More(c, s), divided(c, s); got != want {
				t.Fatalf("More(%04X, %02X): %04X, want %04X", c, b, got, want)
			}
		}
	}
}

// P6.1: as polynomials are divided; bytes that are no text go through as well.
func TestMoreIsWhatIsLeft(t *testing.T) {
	for _, s := range texts() {
		for _, c := range starts() {
			if got, want := crc.More(c, s), divided(c, s); got != want {
				t.Fatalf("More(%04X, %q): %04X, want %04X", c, s, got, want)
			}
		}
	}
}

// P6.2: the chapter's example, and others that are known.
func TestSum(t *testing.T) {
	for _, r := range []struct {
		s    string
		want uint16
	}{
		{digits, 0x29B1}, {"", 0xFFFF}, {"A", 0xB915}, {"\x00", 0xE1F0}, {"\x00\x00", 0x1D0F}, {"\xff", 0xFF00},
		{"\xff\xff", 0}, {"\xff\xff\x00", 0}, {digits + "\x29\xb1", 0},
	} {
		if got := crc.Sum(r.s); got != r.want {
			t.Errorf("Sum(%q): %04X, want %04X", r.s, got, r.want)
		}
	}
}

// P6.2: More from FFFF on.
func TestSumIsMoreFromItsBeginning(t *testing.T) {
	for _, s := range texts() {
		if got, want := crc.Sum(s), crc.More(0xFFFF, s); got != want {
			t.Errorf("Sum(%q): %04X, want %04X", s, got, want)
		}
	}
}

// P6.3: the sum stands behind, the higher byte first, and noughts stand too.
func TestSeal(t *testing.T) {
	for _, r := range []struct{ s, want string }{
		{digits, digits + "\x29\xb1"}, {"", "\xff\xff"}, {"A", "A\xb9\x15"}, {"\x00", "\x00\xe1\xf0"},
		{"\xff", "\xff\xff\x00"}, {"\xff\xff", "\xff\xff\x00\x00"}, {digits + "\x29\xb1", digits + "\x29\xb1\x00\x00"},
	} {
		if got := crc.Seal(r.s); got != r.want {
			t.Errorf("Seal(%q): %q, want %q", r.s, got, r.want)
		}
	}
}

// P6.3: two bytes and no more stand behind, whatever is sealed.
func TestSealIsTheTextAndItsSum(t *testing.T) {
	for _, s := range texts() {
		got, sum := crc.Seal(s), crc.Sum(s)
		want := append([]byte(s), byte(sum/256), byte(sum%256))
		if got != string(want) {
			t.Errorf("Seal(%q): %q, want %q", s, got, want)
		}
	}
}

// P6.4: what was sealed, and nothing of what is too short, of another order,
// of another length, or of another sum.
func TestOpen(t *testing.T) {
	opened(t, digits+"\x29\xb1", digits)
	opened(t, "\xff\xff", "")
	opened(t, "\x00\xe1\xf0", "\x00")
	opened(t, "\xff\xff\x00\x00", "\xff\xff")
	opened(t, digits+"\x29\xb1\x00\x00", digits+"\x29\xb1")
	// A seal's first byte takes its own half of the sum away, so a nought behind
	// the seal seals it.
	opened(t, digits+"\x29\xb1\x00", digits+"\x29")
	for _, s := range []string{
		"", "\x00", "\xff", "\x00\x00", "\xff\x00", "\x00\xff", "\xff\xfe", "\x29\xb1", digits, "A", "AB",
		digits + "\xb1\x29", digits + "\x29", digits + "\x29\xb1\x01", digits + "\x29\xb1\xff", digits + "\x29\xb1\xff\xff",
		"\x29\xb1" + digits, digits + "\x31\xc3", digits + "\xd6\x4e", digits + "29B1", digits[1:] + "\x29\xb1", "0" + digits + "\x29\xb1",
		"213456789\x29\xb1", "A\x15\xb9", "\x00\x00\x00", "\x00\x00\x00\x00",
	} {
		shut(t, s)
	}
}

// P6.4: of all that are two bytes long one is sealed; of all that are three,
// one for each byte that is sealed.
func TestOpenOfAllThatAreShort(t *testing.T) {
	for n := range 1 << 16 {
		s := string([]byte{byte(n >> 8), byte(n)})
		if inside, ok := crc.Open(s); ok != (n == 0xFFFF) || inside != "" {
			t.Fatalf("Open(%q): %q, %v", s, inside, ok)
		}
	}
	for b := range 256 {
		shut(t, string([]byte{byte(b)}))
	}
	for _, b := range []byte{0, 1, 'A', 0x7F, 0x80, 0xFF} {
		inside := string([]byte{b})
		for n := range 1 << 16 {
			s := inside + string([]byte{byte(n >> 8), byte(n)})
			if s == crc.Seal(inside) {
				opened(t, s, inside)
			} else {
				shut(t, s)
			}
		}
	}
}

// P6.5: what is sealed is opened, and sealed twice it is opened twice.
func TestWhatIsSealedIsOpened(t *testing.T) {
	for _, s := range texts() {
		sealed := crc.Seal(s)
		opened(t, sealed, s)
		opened(t, crc.Seal(sealed), sealed)
	}
}

// P6.5: one byte is another one, in the text or in its seal.
func TestOneByteIsAnotherOne(t *testing.T) {
	for _, s := range texts() {
		sealed := crc.Seal(s)
		step := 1 + len(sealed)/100
		for place := len(sealed) - 1; place >= 0; place -= step {
			for by := 1; by < 256; by++ {
				shut(t, changed(sealed, place, byte(by)))
			}
		}
	}
}

// P6.5: two bytes side by side are other ones, in the text, in its seal, or in
// both.
func TestTwoBytesSideBySideAreOtherOnes(t *testing.T) {
	for _, s := range []string{"", "A", "\x00\x00\x00", digits} {
		sealed := crc.Seal(s)
		for place := range len(sealed) - 1 {
			for by := 1; by < 1<<16; by++ {
				shut(t, changed(changed(sealed, place, byte(by>>8)), place+1, byte(by)))
			}
		}
	}
}

// P6.5: two bytes side by side in texts of all lengths.
func TestTwoBytesSideBySideInLongTexts(t *testing.T) {
	rnd := rand.New(rand.NewSource(65))
	for _, s := range append(texts(), noise(rnd, 20000)) {
		sealed := crc.Seal(s)
		for range 100 {
			place, by := rnd.Intn(len(sealed)-1), 1+rnd.Intn(1<<16-1)
			shut(t, changed(changed(sealed, place, byte(by>>8)), place+1, byte(by)))
		}
	}
}

// P6.6: a sum is gone on with, wherever the text is cut.
func TestSumIsGoneOnWith(t *testing.T) {
	for _, s := range texts() {
		step := 1 + len(s)/300
		for cut := 0; cut <= len(s); cut += step {
			if got, want := crc.More(crc.Sum(s[:cut]), s[cut:]), crc.Sum(s); got != want {
				t.Fatalf("%q cut at %d: %04X, want %04X", s, cut, got, want)
			}
		}
	}
	if got := crc.More(crc.Sum("1234"), "56789"); got != 0x29B1 {
		t.Errorf("the example in two parts: %04X", got)
	}
}

// P6.6: so it is of any sum that is gone on with, and of many texts.
func TestMoreIsGoneOnWith(t *testing.T) {
	for _, c := range starts() {
		part, whole := c, ""
		for _, s := range texts() {
			part, whole = crc.More(part, s), whole+s
		}
		if got := crc.More(c, whole); got != part {
			t.Errorf("from %04X on: %04X and %04X", c, got, part)
		}
	}
}

// R4: nothing is kept from call to call.
func TestNothingIsKept(t *testing.T) {
	for _, s := range texts() {
		sum, sealed := crc.Sum(s), crc.Seal(s)
		crc.More(sum, digits)
		crc.Open(sealed)
		shut(t, changed(sealed, 0, 1))
		if crc.Sum(s) != sum || crc.Seal(s) != sealed {
			t.Errorf("%q: another sum, asked again", s)
		}
		opened(t, sealed, s)
	}
}
