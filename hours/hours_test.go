package hours_test

import (
	"fmt"
	"math"
	"math/rand"
	"strings"
	"testing"

	"pinchcock/hours"
)

// maxTick is the greatest tick that is told.
const maxTick = 1 << 40

// wanted is the text of a tick that may be, by the chapter.
func wanted(tick int) string {
	return fmt.Sprintf("%d:%02d:%02d.%02d", tick/360000, tick/6000%60, tick/100%60, tick%100)
}

// ticks are many: at each edge, and at random.
func ticks() []int {
	l := []int{}
	for _, n := range []int{0, 100, 6000, 360000, 3600000, 36000000, 3054198 * 360000, maxTick, maxTick / 2} {
		for k := -12; k <= 12; k++ {
			l = append(l, n+k)
		}
	}
	rnd := rand.New(rand.NewSource(53))
	for range 50000 {
		l = append(l, rnd.Intn(maxTick+1)>>rnd.Intn(40))
	}
	return append(l, math.MinInt, math.MinInt+1, math.MaxInt)
}

// P53.1 and P53.3: the text of each tick, and the tick of each text.
func TestTextAndParse(t *testing.T) {
	for _, tick := range ticks() {
		counted := min(max(tick, 0), maxTick)
		s := hours.Text(tick)
		if want := wanted(counted); s != want {
			t.Fatalf("Text(%d): %q, want %q", tick, s, want)
		}
		if got, ok := hours.Parse(s); got != counted || !ok {
			t.Fatalf("Parse(%q): %d, %v, want %d", s, got, ok, counted)
		}
	}
}

// P53.1: texts that are written out.
func TestTexts(t *testing.T) {
	for tick, want := range map[int]string{
		0: "0:00:00.00", 1: "0:00:00.01", 99: "0:00:00.99", 100: "0:00:01.00", 5999: "0:00:59.99", 6000: "0:01:00.00", 359999: "0:59:59.99", 360000: "1:00:00.00",
		3599999: "9:59:59.99", 3600000: "10:00:00.00", maxTick: "3054198:57:57.76", -1: "0:00:00.00", math.MinInt: "0:00:00.00",
	} {
		if got := hours.Text(tick); got != want {
			t.Errorf("Text(%d): %q, want %q", tick, got, want)
		}
	}
	last := hours.Text(maxTick)
	for _, tick := range []int{maxTick + 1, maxTick + 360000, math.MaxInt} {
		if got := hours.Text(tick); got != last {
			t.Errorf("Text(%d): %q, want %q", tick, got, last)
		}
	}
}

// P53.2: texts that are none.
func TestWhatIsNoText(t *testing.T) {
	for _, s := range []string{
		"", ":", "::.", "0", "0:00", "0:00:00", "0:00:00.", "0:00:00.0", "0:00:00.000", "0:0:00.00", "0:00:0.00", "0:000:00.00", "00:00:00.00", "01:00:00.00", ":00:00.00", " 0:00:00.00", "0:00:00.00 ", "0:00:00.00\n",
		"0:60:00.00", "0:00:60.00", "0:99:99.99", "-0:00:00.00", "+1:00:00.00", "1:+0:00.00", "1:00:-1.00", "1:00:00.-1", "-1:00:00.00", "0:00:00:00", "0.00.00.00", "0:00.00.00", "0:00:00,00", "a:00:00.00", "0:0a:00.00",
		"0:00:00.0x", "1_0:00:00.00", "0x1:00:00.00", "1e1:00:00.00", "0:00:00.00.00", "0:00:00:00.00", "\u0661:00:00.00", "0:00:00.00\x00",
		wanted(maxTick + 1), wanted(maxTick + 100), wanted(maxTick + 360000), "3054199:00:00.00", "9999999:59:59.99", "99999999999999999999:00:00.00", "51240955760405:00:00.00", strings.Repeat("9", 400) + ":00:00.00",
		"18446744073709551616:00:00.00", "9223372036854775807:59:59.99", "4611686018427387904:00:00.00",
	} {
		if tick, ok := hours.Parse(s); tick != 0 || ok {
			t.Errorf("Parse(%q): %d, %v", s, tick, ok)
		}
	}
}

// P53.2 and P53.3: texts of which a byte is another one, are told or not, and then
// just as they were.
func TestOtherTexts(t *testing.T) {
	rnd := rand.New(rand.NewSource(532))
	right := 0
	for range 100000 {
		b := []byte(hours.Text(rnd.Intn(maxTick+1) >> rnd.Intn(40)))
		for range 1 + rnd.Intn(3) {
			b[rnd.Intn(len(b))] = "0123456789:.+- 9"[rnd.Intn(16)]
		}
		tick, ok := hours.Parse(string(b))
		if ok {
			right++
		}
		if ok && hours.Text(tick) != string(b) || !ok && tick != 0 {
			t.Fatalf("Parse(%q): %d, %v", b, tick, ok)
		}
	}
	if right < 1000 {
		t.Errorf("%d were told", right)
	}
}

// P53.3: of texts of one length the later time is the greater one.
func TestLaterIsGreater(t *testing.T) {
	l := ticks()
	for k := 1; k < len(l); k++ {
		a, b := min(max(l[k-1], 0), maxTick), min(max(l[k], 0), maxTick)
		s, u := hours.Text(a), hours.Text(b)
		if len(s) == len(u) && (a < b) != (s < u) {
			t.Fatalf("%d is %q, %d is %q", a, s, b, u)
		}
	}
}

// The chapter's example.
func TestExample(t *testing.T) {
	if got := hours.Text(360000); got != "1:00:00.00" {
		t.Errorf("Text(360000): %q", got)
	}
}
