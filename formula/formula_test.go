package formula_test

import (
	"fmt"
	"math"
	"math/rand"
	"reflect"
	"slices"
	"strings"
	"testing"

	"pinchcock/api"
	"pinchcock/formula"
)

// The parts.
const (
	opTrue = 1 + iota
	opAtom
	opNot
	opAnd
	opOr
	opOnce
	opAlways
	opSince
)

// yes is the part that is always so, and the others are as short.
var (
	yes   = api.Term{Op: opTrue}
	not   = api.Term{Op: opNot}
	and   = api.Term{Op: opAnd}
	or    = api.Term{Op: opOr}
	since = api.Term{Op: opSince}
)

// atom is a part that asks.
func atom(what, least int) api.Term { return api.Term{Op: opAtom, A: what, B: least} }

// once and always are parts that look back.
func once(back int) api.Term   { return api.Term{Op: opOnce, A: back} }
func always(back int) api.Term { return api.Term{Op: opAlways, A: back} }

// names are the words of what is asked, from 1 on.
var names = []string{"", "mode", "latch", "notes", "level", "buzzer", "open", "pos", "volume", "drop", "tick"}

// texts are parts that may be, with their words.
func texts() map[api.Term]string {
	m := map[api.Term]string{
		yes: "true", not: "not", and: "and", or: "or", since: "since",
		once(0): "once:0", once(7): "once:7", once(1000): "once:1000", always(0): "always:0", always(10): "always:10", always(1000): "always:1000",
	}
	for what := 1; what <= 10; what++ {
		for _, least := range []int{0, 1, 10, 999, 1<<31 - 1} {
			m[atom(what, least)] = fmt.Sprintf("%s>=%d", names[what], least)
		}
	}
	for k := range 12 {
		m[atom(11, 1<<k)] = fmt.Sprintf("hazard:%d", 1<<k)
	}
	return m
}

// odd are parts that may not be.
func odd() []api.Term {
	l := []api.Term{{}, {Op: -1}, {Op: 9}, {Op: math.MinInt}, {Op: math.MaxInt}, {Op: 0, A: 1}}
	for _, n := range []int{math.MinInt, -1, 1, math.MaxInt} {
		for _, op := range []int{opTrue, opNot, opAnd, opOr, opSince} {
			l = append(l, api.Term{Op: op, A: n}, api.Term{Op: op, B: n})
		}
		l = append(l, api.Term{Op: opOnce, B: n}, api.Term{Op: opAlways, B: n}, api.Term{Op: opOnce, A: 5, B: n})
	}
	for _, n := range []int{math.MinInt, -1, 1001, math.MaxInt} {
		l = append(l, once(n), always(n))
	}
	for _, n := range []int{math.MinInt, -1, 1 << 31, math.MaxInt} {
		for what := 1; what <= 11; what++ {
			l = append(l, atom(what, n))
		}
	}
	for _, n := range []int{0, 3, 5, 6, 7, 4095, 4096, 1 << 20, -4096, -1, 1 << 30, 2049} {
		l = append(l, atom(11, n))
	}
	for _, what := range []int{math.MinInt, -1, 0, 12, 1 << 32, math.MaxInt} {
		l = append(l, atom(what, 1))
	}
	return l
}

// needs is how many formulas each part needs.
var needs = [9]int{0, 0, 0, 1, 2, 2, 1, 1, 2}

// P56.1: each part that may be, with as many formulas as it needs, and with one more
// or less.
func TestRightOfEachPart(t *testing.T) {
	for x, word := range texts() {
		for many := range 4 {
			l := append(slices.Repeat([]api.Term{yes}, many), x)
			if got, want := formula.Right(l), many == needs[x.Op]; got != want {
				t.Errorf("%d ahead of %s: %v, want %v", many, word, got, want)
			}
		}
	}
	for _, x := range odd() {
		for many := range 3 {
			if l := append(slices.Repeat([]api.Term{yes}, many), x); formula.Right(l) {
				t.Errorf("%+v", l)
			}
		}
	}
}

// P56.1: parts that are a formula together, and some that are none.
func TestRight(t *testing.T) {
	for _, r := range []struct {
		l    []api.Term
		want bool
	}{
		{nil, false}, {[]api.Term{}, false}, {[]api.Term{yes}, true}, {[]api.Term{yes, yes}, false}, {[]api.Term{not}, false}, {[]api.Term{yes, not, not, not}, true}, {[]api.Term{not, yes}, false},
		{[]api.Term{yes, and}, false}, {[]api.Term{yes, yes, and}, true}, {[]api.Term{yes, and, yes}, false}, {[]api.Term{yes, yes, yes, and}, false}, {[]api.Term{yes, yes, yes, and, or}, true}, {[]api.Term{yes, yes, and, yes, or}, true},
		{[]api.Term{yes, yes, and, and}, false}, {[]api.Term{yes, yes, since, once(3), always(4), not}, true}, {[]api.Term{yes, {}, and}, false}, {[]api.Term{atom(11, 3), not}, false},
	} {
		if got := formula.Right(r.l); got != r.want {
			t.Errorf("%+v: %v, want %v", r.l, got, r.want)
		}
	}
}

// P56.1: forty parts at the most.
func TestHowManyParts(t *testing.T) {
	for many := 1; many < 60; many++ {
		if got, want := formula.Right(append([]api.Term{yes}, slices.Repeat([]api.Term{not}, many-1)...)), many <= 40; got != want {
			t.Errorf("%d parts: %v", many, got)
		}
	}
	wide := append(slices.Repeat([]api.Term{yes}, 20), slices.Repeat([]api.Term{or}, 19)...)
	if !formula.Right(wide) || !formula.Right(append(wide, not)) || formula.Right(append(wide, not, not)) {
		t.Error("twenty that are always so")
	}
}

// drawn is a formula of so many parts, and the formulas that its last part needs.
func drawn(rnd *rand.Rand, many int) ([]api.Term, [][]api.Term) {
	unary := []api.Term{not, once(rnd.Intn(1001)), always(rnd.Intn(1001))}
	binary := []api.Term{and, or, since}
	switch {
	case many == 1:
		alone := []api.Term{yes, atom(1+rnd.Intn(10), rnd.Intn(1<<31)), atom(11, 1<<rnd.Intn(12))}
		return alone[rnd.Intn(3):][:1:1], nil
	case many == 2 || rnd.Intn(3) == 0:
		part, _ := drawn(rnd, many-1)
		return append(slices.Clone(part), unary[rnd.Intn(3)]), [][]api.Term{part}
	}
	left := 1 + rnd.Intn(many-2)
	a, _ := drawn(rnd, left)
	b, _ := drawn(rnd, many-1-left)
	return append(slices.Concat(a, b), binary[rnd.Intn(3)]), [][]api.Term{a, b}
}

// P56.2 and P56.5: what the last part needs, in order.
func TestParts(t *testing.T) {
	rnd := rand.New(rand.NewSource(56))
	for range 20000 {
		l, want := drawn(rnd, 1+rnd.Intn(40))
		if !formula.Right(l) {
			t.Fatalf("%+v is not right", l)
		}
		got := formula.Parts(l)
		if len(got) != len(want) {
			t.Fatalf("Parts(%+v): %+v, want %+v", l, got, want)
		}
		for k := range want {
			if !slices.Equal(got[k], want[k]) || !formula.Right(got[k]) {
				t.Fatalf("Parts(%+v): %+v, want %+v", l, got, want)
			}
		}
		if again := append(slices.Concat(got...), l[len(l)-1]); !slices.Equal(again, l) {
			t.Fatalf("%+v became %+v", l, again)
		}
	}
	for _, l := range [][]api.Term{nil, {not}, {yes, yes}, {yes, {}}, {atom(11, 3), not}, append([]api.Term{yes}, slices.Repeat([]api.Term{not}, 40)...), {yes}, {atom(1, 1)}} {
		if got := formula.Parts(l); len(got) != 0 {
			t.Errorf("Parts(%+v): %+v", l, got)
		}
	}
}

// P56.3: the words of each part.
func TestWords(t *testing.T) {
	ahead := []string{"", "true ", "true true "}
	for x, word := range texts() {
		l := append(slices.Repeat([]api.Term{yes}, needs[x.Op]), x)
		want := ahead[needs[x.Op]] + word
		if got, ok := formula.Text(l); got != want || !ok {
			t.Errorf("Text(%+v): %q, %v, want %q", l, got, ok, want)
		}
		if got, wrong := formula.Parse(want); wrong != api.OK || !slices.Equal(got, l) {
			t.Errorf("Parse(%q): %+v, %d, want %+v", want, got, wrong, l)
		}
	}
	for _, x := range odd() {
		if got, ok := formula.Text([]api.Term{x}); got != "" || ok {
			t.Errorf("Text(%+v): %q, %v", x, got, ok)
		}
		if got, ok := formula.Text([]api.Term{yes, x}); got != "" || ok {
			t.Errorf("Text(%+v): %q, %v", x, got, ok)
		}
	}
	for _, l := range [][]api.Term{nil, {not}, {yes, yes}, {yes, and}, slices.Repeat([]api.Term{yes}, 41)} {
		if got, ok := formula.Text(l); got != "" || ok {
			t.Errorf("Text(%+v): %q, %v", l, got, ok)
		}
	}
}

// P56.4: pieces that are no words.
func TestWhatIsNoWord(t *testing.T) {
	for _, piece := range []string{
		"", " ", "True", "TRUE", "nott", "no", "andor", "xor", "sinc", "once", "once:", "once:x", "once:-1", "once:+1", "once:01", "once:1001", "once:00", "once: 1", "once:1.0", "once:0x1", "once:1_0", "once:99999999999", "once:4294967296", "Once:1",
		"once:18446744073709551617", "always", "always:", "always:1001", "always:007", "always:-0", "mode", "mode>", "mode>=", "mode>=x", "mode=1", "mode>1", "mode<=1", "mode>=-1", "mode>=01", "mode>=+1", "mode>=2147483648", "mode>=4294967297",
		"mode>=00000000001", "mode>=12345678901", "mode>=18446744073709551616", "mode>>=1", "mode>=>=1", "mode>=1>=1", ">=1", "1>=1", "moode>=1", "Mode>=1", "mode >=1", "rate>=1", "hazard>=1", "hazard", "hazard:", "hazard:0", "hazard:3",
		"hazard:4096", "hazard:01", "hazard:-1", "hazard:4095", "true\n", "\ttrue", "true,", "mode>=1\x00", "\u00a0", "mode\u2265" + "1", "drop>=\u0661",
	} {
		for _, s := range []string{piece, "true " + piece, piece + " true", "true " + piece + " and", "and " + piece} {
			if got, wrong := formula.Parse(s); got != nil || wrong != api.ErrForm {
				t.Errorf("Parse(%q): %+v, %d", s, got, wrong)
			}
		}
	}
	for _, s := range []string{" true", "true ", "true  not", " ", "  "} {
		if got, wrong := formula.Parse(s); got != nil || wrong != api.ErrForm {
			t.Errorf("Parse(%q): %+v, %d", s, got, wrong)
		}
	}
}

// P56.4: more pieces than may be, and pieces that are no formula.
func TestParseOfWrongTexts(t *testing.T) {
	nots := func(many int) string { return "true" + strings.Repeat(" not", many-1) }
	for _, r := range []struct {
		s    string
		want api.Errno
	}{
		{nots(1), api.OK}, {nots(40), api.OK}, {nots(41), api.ErrSize}, {nots(500), api.ErrSize}, {"not" + strings.Repeat(" not", 39), api.ErrArg}, {"not" + strings.Repeat(" not", 40), api.ErrSize},
		{"not", api.ErrArg}, {"true true", api.ErrArg}, {"and", api.ErrArg}, {"true and", api.ErrArg}, {"true and true", api.ErrArg}, {"once:5", api.ErrArg}, {"mode>=1 latch>=1", api.ErrArg}, {"true true since or", api.ErrArg},
		// The first piece that is wrong counts, and of one piece the word.
		{"and x", api.ErrForm}, {nots(40) + " x", api.ErrForm}, {nots(41) + " x", api.ErrSize}, {"x " + nots(60), api.ErrForm}, {"x" + strings.Repeat(" x", 60), api.ErrForm},
	} {
		l, wrong := formula.Parse(r.s)
		if wrong != r.want || (wrong != api.OK) != (l == nil) {
			t.Errorf("Parse(%q): %+v, %d, want %d", r.s, l, wrong, r.want)
		}
	}
}

// P56.5: what is told is parsed as it was, and the other way round.
func TestTextAndParse(t *testing.T) {
	rnd := rand.New(rand.NewSource(565))
	right := 0
	for range 20000 {
		l, _ := drawn(rnd, 1+rnd.Intn(40))
		s, ok := formula.Text(l)
		got, wrong := formula.Parse(s)
		if !ok || wrong != api.OK || !slices.Equal(got, l) {
			t.Fatalf("%+v is %q, and that %+v, %d", l, s, got, wrong)
		}
		b := []byte(s)
		b[rnd.Intn(len(b))] = " 0123456789:>=otan"[rnd.Intn(18)]
		if got, wrong := formula.Parse(string(b)); wrong == api.OK {
			right++
			if again, ok := formula.Text(got); !ok || again != string(b) {
				t.Fatalf("%q is %+v, and that %q", b, got, again)
			}
		}
	}
	if right < 1000 {
		t.Errorf("%d were formulas", right)
	}
}

// P56.1 to P56.4: any parts, of which many are none.
func TestAnyParts(t *testing.T) {
	rnd := rand.New(rand.NewSource(566))
	words := texts()
	var pool []api.Term
	for x := range words {
		pool = append(pool, x)
	}
	slices.SortFunc(pool, func(a, b api.Term) int { return strings.Compare(words[a], words[b]) })
	none := odd()
	for range 50000 {
		var l []api.Term
		var pieces []string
		ready, right := 0, true
		for range 1 + rnd.Intn(6) {
			x := pool[rnd.Intn(len(pool))]
			if rnd.Intn(40) == 0 {
				x = none[rnd.Intn(len(none))]
			}
			l, pieces = append(l, x), append(pieces, words[x])
			if words[x] == "" {
				right = false
				continue
			}
			ready -= needs[x.Op]
			right = right && ready >= 0
			ready++
		}
		right = right && ready == 1
		if formula.Right(l) != right {
			t.Fatalf("Right(%+v): %v", l, !right)
		}
		s, ok := formula.Text(l)
		if ok != right || !right && s != "" || right && s != strings.Join(pieces, " ") {
			t.Fatalf("Text(%+v): %q, %v", l, s, ok)
		}
		if got := formula.Parts(l); !right && len(got) != 0 {
			t.Fatalf("Parts(%+v): %+v", l, got)
		}
	}
}

// R3: what is handed in stays as it was, and what is answered is new memory.
func TestMemory(t *testing.T) {
	l := append(make([]api.Term, 0, 20), atom(6, 1), not, atom(2, 1), not, or)
	kept := slices.Clone(l)
	parts := formula.Parts(l)
	for k := range parts {
		grown := append(parts[k], since, since)
		for i := range grown {
			grown[i] = api.Term{Op: -9}
		}
	}
	if !slices.Equal(l, kept) || !reflect.DeepEqual(l[:20][5:], make([]api.Term, 15)) {
		t.Errorf("%+v", l[:20])
	}
	parts = formula.Parts(l)
	_ = append(parts[0], since)
	if !slices.Equal(parts[1], kept[2:4]) {
		t.Errorf("%+v", parts)
	}
}

// The chapter's example.
func TestExample(t *testing.T) {
	l, wrong := formula.Parse("open>=1 not latch>=1 not or")
	if want := []api.Term{atom(6, 1), not, atom(2, 1), not, or}; wrong != api.OK || !slices.Equal(l, want) {
		t.Errorf("%+v, %d", l, wrong)
	}
}
