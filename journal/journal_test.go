package journal_test

import (
	"math"
	"math/rand"
	"testing"

	"pinchcock/api"
	"pinchcock/journal"
)

// most is the greatest number that four bytes tell.
const most = 1<<32 - 1

// some is an entry that is right.
func some() api.Entry {
	return api.Entry{Seq: 7, Mode: 3, Prog: api.Programme{Rate: 60, Vtbi: 100, Set: 20}, Total: api.Total{Set: 20, Drops: 30, Base: 1234}}
}

// fastest is the greatest rate that may be, by the set.
var fastest = map[int]int{10: 1000, 15: 1000, 20: 1000, 60: 500}

// within is whether n is from low to high.
func within(n, low, high int) bool {
	return n >= low && n <= high
}

// right is what Right is to tell.
func right(e api.Entry) bool {
	p, t := e.Prog, e.Total
	high, known := fastest[p.Set]
	_, counted := fastest[t.Set]
	programmed := known && within(p.Rate, 5, high) && within(p.Vtbi, 1, 5000) || p.Rate == 0 && p.Vtbi == 0 && p.Set == 0
	return within(e.Seq, 1, most) && within(e.Mode, 1, 7) && programmed && (t.Set == 0 || counted) && within(t.Drops, 0, most) && within(t.Base, 0, 99999999)
}

// bytes are n in so many of them, the highest first.
func bytes(n, width int) string {
	s := ""
	for range width {
		s = string([]byte{byte(n)}) + s
		n >>= 8
	}
	return s
}

// sealed is a text with its sum of sixteen bits behind it: that of 0x1021, which
// begins with all bits.
func sealed(s string) string {
	sum := 0xFFFF
	for k := range 8 * len(s) {
		bit := int(s[k/8]) >> (7 - k%8) & 1
		high := sum >> 15 & 1
		sum = sum << 1 & 0xFFFF
		if bit != high {
			sum ^= 0x1021
		}
	}
	return s + bytes(sum, 2)
}

// wanted is what Put is to tell of an entry that is right.
func wanted(e api.Entry) string {
	return sealed(bytes(e.Seq, 4) + bytes(e.Mode, 1) + bytes(e.Prog.Rate, 2) + bytes(e.Prog.Vtbi, 2) + bytes(e.Prog.Set, 1) + bytes(e.Total.Set, 1) + bytes(e.Total.Drops, 4) + bytes(e.Total.Base, 4))
}

// hold runs Right, Put, and Get of what was put, and holds them against what is
// wanted.
func hold(t *testing.T, e api.Entry, ok bool) {
	t.Helper()
	if got := journal.Right(e); got != ok || got != right(e) {
		t.Fatalf("Right(%+v): %v", e, got)
	}
	s, put := journal.Put(e)
	if !ok {
		if s != "" || put {
			t.Fatalf("Put(%+v): %q, %v", e, s, put)
		}
		return
	}
	if !put || s != wanted(e) || len(s) != 21 {
		t.Fatalf("Put(%+v): %q, %v, want %q", e, s, put, wanted(e))
	}
	if got, is := journal.Get(s); !is || got != e {
		t.Fatalf("Get(%q): %+v, %v, want %+v", s, got, is, e)
	}
}

// none is of a text that is no entry.
func none(t *testing.T, s string) {
	t.Helper()
	if got, is := journal.Get(s); is || got != (api.Entry{}) {
		t.Fatalf("Get(%q): %+v, %v", s, got, is)
	}
}

// change is a field of an entry.
type change func(e *api.Entry) *int

// changes are all fields.
func changes() []change {
	return []change{
		func(e *api.Entry) *int { return &e.Seq }, func(e *api.Entry) *int { return &e.Mode }, func(e *api.Entry) *int { return &e.Prog.Rate }, func(e *api.Entry) *int { return &e.Prog.Vtbi },
		func(e *api.Entry) *int { return &e.Prog.Set }, func(e *api.Entry) *int { return &e.Total.Set }, func(e *api.Entry) *int { return &e.Total.Drops }, func(e *api.Entry) *int { return &e.Total.Base },
	}
}

// P39.1: each field, at its ends and beyond.
func TestRightFieldByField(t *testing.T) {
	ends := []struct{ low, high int }{{1, most}, {1, 7}, {5, 1000}, {1, 5000}, {0, 0}, {0, 0}, {0, most}, {0, 99999999}}
	for k, field := range changes() {
		for _, n := range []int{ends[k].low, ends[k].low - 1, ends[k].low + 1, ends[k].high, ends[k].high - 1, ends[k].high + 1, math.MinInt, -1, 0, 1, 2, 7, 8, 9, 10, 15, 16, 20, 60, 255, 256, 1 << 32, 1<<32 + 7, 1<<32 + 20, 1 << 62, math.MaxInt} {
			e := some()
			*field(&e) = n
			hold(t, e, right(e))
		}
	}
}

// P39.1: no programme, and no set, are right; a part of a programme is not.
func TestRight(t *testing.T) {
	hold(t, some(), true)
	e := some()
	e.Prog = api.Programme{}
	hold(t, e, true)
	e.Total = api.Total{}
	hold(t, e, true)
	hold(t, api.Entry{Seq: 1, Mode: 1}, true)
	hold(t, api.Entry{Seq: most, Mode: 7, Prog: api.Programme{Rate: 500, Vtbi: 5000, Set: 60}, Total: api.Total{Set: 60, Drops: most, Base: 99999999}}, true)
	hold(t, api.Entry{}, false)
	hold(t, api.Entry{Seq: 1}, false)
	hold(t, api.Entry{Mode: 1}, false)
	for _, p := range []api.Programme{{Rate: 60}, {Vtbi: 100}, {Set: 20}, {Rate: 60, Vtbi: 100}, {Rate: 60, Set: 20}, {Vtbi: 100, Set: 20}, {Rate: 501, Vtbi: 100, Set: 60}, {Rate: -60, Vtbi: -100, Set: -20}} {
		e := some()
		e.Prog = p
		hold(t, e, false)
	}
	for _, total := range []api.Total{{Set: 7}, {Set: -20}, {Drops: -1}, {Base: -1}, {Set: 20, Drops: most + 1}, {Set: 20, Base: 100000000}} {
		e := some()
		e.Total = total
		hold(t, e, false)
	}
	hold(t, api.Entry{Seq: 1, Mode: 1, Total: api.Total{Drops: 5, Base: 7}}, true)
}

// P39.2: the bytes, written out.
func TestPut(t *testing.T) {
	s, ok := journal.Put(some())
	if row := "\x00\x00\x00\x07\x03\x00\x3c\x00\x64\x14\x14\x00\x00\x00\x1e\x00\x00\x04\xd2"; !ok || len(s) != 21 || s[:19] != row || s != sealed(row) {
		t.Errorf("Put: %q, %v", s, ok)
	}
	if s := sealed("123456789"); s != "123456789\x29\xb1" {
		t.Errorf("the sum that these tests reckon is another one: %q", s)
	}
}

// anyEntry is one that is right.
func anyEntry(rnd *rand.Rand) api.Entry {
	set := []int{10, 15, 20, 60}[rnd.Intn(4)]
	e := api.Entry{Seq: 1 + rnd.Intn(most), Mode: 1 + rnd.Intn(7), Prog: api.Programme{Rate: 5 + rnd.Intn(fastest[set]-4), Vtbi: 1 + rnd.Intn(5000), Set: set}, Total: api.Total{Set: []int{0, 10, 15, 20, 60}[rnd.Intn(5)], Drops: rnd.Intn(most + 1), Base: rnd.Intn(100000000)}}
	if rnd.Intn(4) == 0 {
		e.Prog = api.Programme{}
	}
	return e
}

// P39.2, P39.3 and P39.5: what is put is got.
func TestWhatIsPutIsGot(t *testing.T) {
	rnd := rand.New(rand.NewSource(395))
	for range 5000 {
		hold(t, anyEntry(rnd), true)
	}
}

// P39.3: no other text is an entry: none that is cut, longer, or sealed with what
// is not right.
func TestGetOfNone(t *testing.T) {
	s := wanted(some())
	for k := range s {
		none(t, s[:k])
		none(t, s[k+1:])
		none(t, sealed(s[:k]))
	}
	for _, other := range []string{"\x00", "a", s, "\x00\x00"} {
		none(t, s+other)
		none(t, other+s)
		none(t, sealed(s[:19]+other))
		none(t, sealed(other+s[:19]))
	}
	none(t, sealed(s))
	none(t, "nothing at all that is of any use")
	for k, field := range changes() {
		for _, n := range [][]int{{0}, {0, 8, 255}, {0, 4, 1001, 65535}, {0, 5001, 65535}, {0, 7, 255}, {7, 255}, {}, {100000000, most}}[k] {
			e := some()
			*field(&e) = n
			none(t, wanted(e))
		}
	}
}

// P39.3 and P39.5: of any bytes that are sealed it is the entry whose Put they
// are, if there is one.
func TestGetOfAnyBytes(t *testing.T) {
	rnd := rand.New(rand.NewSource(393))
	found := 0
	for range 50000 {
		row := []byte(wanted(anyEntry(rnd))[:19])
		for range rnd.Intn(3) {
			row[rnd.Intn(19)] = byte(rnd.Intn(256))
		}
		s := sealed(string(row))
		e, is := journal.Get(s)
		if !is {
			none(t, s)
			continue
		}
		found++
		if again, ok := journal.Put(e); !ok || again != s || !right(e) {
			t.Fatalf("Get(%q): %+v, of which Put is %q", s, e, again)
		}
	}
	if found < 10000 {
		t.Fatalf("only %d entries", found)
	}
}

// P39.5: an entry of which a byte is another one is none.
func TestAnotherByte(t *testing.T) {
	rnd := rand.New(rand.NewSource(396))
	for _, e := range []api.Entry{some(), {Seq: 1, Mode: 1}, anyEntry(rnd), anyEntry(rnd)} {
		s := wanted(e)
		for k := range s {
			for b := range 256 {
				if byte(b) != s[k] {
					none(t, s[:k]+string([]byte{byte(b)})+s[k+1:])
				}
			}
		}
	}
}

// newest runs Newest, and holds it against what is wanted.
func newest(t *testing.T, a, b string, want api.Entry, slot int, ok bool) {
	t.Helper()
	got, at, is := journal.Newest([2]string{a, b})
	if got != want || at != slot || is != ok {
		t.Fatalf("Newest(%q, %q): %+v, %d, %v, want %+v, %d, %v", a, b, got, at, is, want, slot, ok)
	}
}

// P39.4: the greater Seq, of the same the first one, of one that is none the
// other one.
func TestNewest(t *testing.T) {
	at := func(seq, mode int) api.Entry {
		e := some()
		e.Seq, e.Mode = seq, mode
		return e
	}
	put := func(seq, mode int) string { return wanted(at(seq, mode)) }
	newest(t, put(7, 3), put(8, 4), at(8, 4), 1, true)
	newest(t, put(8, 3), put(7, 4), at(8, 3), 0, true)
	newest(t, put(8, 3), put(8, 4), at(8, 3), 0, true)
	newest(t, put(8, 4), put(8, 3), at(8, 4), 0, true)
	newest(t, put(1, 3), put(most, 4), at(most, 4), 1, true)
	newest(t, put(most, 3), put(1, 4), at(most, 3), 0, true)
	newest(t, put(255, 3), put(256, 4), at(256, 4), 1, true)
	for _, bad := range []string{"", "?", put(9, 3)[:20], put(9, 3) + "\x00", put(9, 8), put(0, 3)} {
		newest(t, put(7, 3), bad, at(7, 3), 0, true)
		newest(t, bad, put(7, 3), at(7, 3), 1, true)
		newest(t, bad, bad, api.Entry{}, 0, false)
		newest(t, bad, "", api.Entry{}, 0, false)
	}
}

// P39.4: of any two.
func TestNewestOfAny(t *testing.T) {
	rnd := rand.New(rand.NewSource(394))
	for range 5000 {
		a, b := anyEntry(rnd), anyEntry(rnd)
		b.Seq = min(max(a.Seq+rnd.Intn(5)-2, 1), most)
		if a.Seq >= b.Seq {
			newest(t, wanted(a), wanted(b), a, 0, true)
		} else {
			newest(t, wanted(a), wanted(b), b, 1, true)
		}
	}
}

// R4: nothing is kept from call to call.
func TestNothingIsKept(t *testing.T) {
	for range 3 {
		hold(t, some(), true)
		hold(t, api.Entry{}, false)
		none(t, "")
	}
}

// The chapter's example: an entry has 21 bytes.
func TestExample(t *testing.T) {
	if s, ok := journal.Put(some()); len(s) != 21 || !ok {
		t.Errorf("%d bytes", len(s))
	}
}
