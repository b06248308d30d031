package holds_test

import (
	"math"
	"math/rand"
	"slices"
	"strings"
	"testing"

	"pinchcock/api"
	"pinchcock/formula"
	"pinchcock/holds"
	"pinchcock/scenes"
	"pinchcock/session"
)

// parsed is the formula of a text that tells one.
func parsed(t *testing.T, s string) []api.Term {
	t.Helper()
	l, wrong := formula.Parse(s)
	if wrong != api.OK {
		t.Fatalf("%q: %d", s, wrong)
	}
	return l
}

// P57.1: what is asked, and what is not to be asked.
func TestAsk(t *testing.T) {
	o := api.Out{Tick: 11, Mode: 12, Latch: 13, Notes: 14, Level: 15, Buzzer: 16, Open: 17, Pos: 18, Volume: 19, Frame: "x"}
	want := []int{0, 12, 13, 14, 15, 16, 17, 18, 19, 0, 11, 0, 0}
	for what, n := range want {
		if got := holds.Ask(o, what); got != n {
			t.Errorf("Ask(%d): %d, want %d", what, got, n)
		}
	}
	o.Drop = true
	if got := holds.Ask(o, api.AskDrop); got != 1 {
		t.Errorf("a drop: %d", got)
	}
	for _, what := range []int{math.MinInt, -1, 0, 11, 12, 1 << 32, 1<<32 + 1, math.MaxInt} {
		if got := holds.Ask(o, what); got != 0 {
			t.Errorf("Ask(%d): %d", what, got)
		}
	}
	for _, n := range []int{math.MinInt, -1, 0, math.MaxInt} {
		o := api.Out{Tick: n, Mode: n, Latch: n, Notes: n, Level: n, Buzzer: n, Open: n, Pos: n, Volume: n}
		for _, what := range []int{1, 2, 3, 4, 5, 6, 7, 8, 10} {
			if got := holds.Ask(o, what); got != n {
				t.Errorf("Ask(%d): %d, want %d", what, got, n)
			}
		}
	}
}

// meant is whether a formula is so at a place, by the sentences of the chapter.
func meant(l []api.Term, out []api.Out, at int) bool {
	x, parts := l[len(l)-1], formula.Parts(l)
	so := func(part, at int) bool { return meant(parts[part], out, at) }
	switch x.Op {
	case api.OpTrue:
		return true
	case api.OpAtom:
		if x.A == api.AskHazard {
			return out[at].Latch&x.B == x.B
		}
		return holds.Ask(out[at], x.A) >= x.B
	case api.OpNot:
		return !so(0, at)
	case api.OpAnd:
		return so(0, at) && so(1, at)
	case api.OpOr:
		return so(0, at) || so(1, at)
	case api.OpOnce:
		for k := max(at-x.A, 0); k <= at; k++ {
			if so(0, k) {
				return true
			}
		}
		return false
	case api.OpAlways:
		for k := max(at-x.A, 0); k <= at; k++ {
			if !so(0, k) {
				return false
			}
		}
		return true
	}
	for k := at; k >= 0; k-- {
		if so(1, k) {
			return true
		}
		if !so(0, k) {
			return false
		}
	}
	return false
}

// marks are ticks of which each has a drop where the mark is x, and a latch where
// it is l, or both where it is b.
func marks(s string) []api.Out {
	var out []api.Out
	for k, mark := range s {
		o := api.Out{Tick: k, Drop: mark == 'x' || mark == 'b'}
		if mark == 'l' || mark == 'b' {
			o.Latch = api.HzDoor
		}
		out = append(out, o)
	}
	return out
}

// P57.2: formulas over ticks, written out: 1 where it is so.
func TestFormulas(t *testing.T) {
	for _, r := range []struct{ text, ticks, want string }{
		{"true", ".x.", "111"}, {"true not", ".x.", "000"},
		{"drop>=1", ".x.x", "0101"}, {"drop>=0", ".x.x", "1111"}, {"drop>=2", ".x.x", "0000"}, {"drop>=1 not", ".x.x", "1010"},
		{"tick>=2", "....", "0011"}, {"hazard:128", ".lb.", "0110"}, {"hazard:64", ".lb.", "0000"}, {"latch>=128", ".lb.", "0110"}, {"latch>=129", ".lb.", "0000"},
		{"drop>=1 hazard:128 and", "xlb.", "0010"}, {"drop>=1 hazard:128 or", "xlb.", "1110"},
		{"drop>=1 once:0", ".x..x.", "010010"}, {"drop>=1 once:1", ".x..x.", "011011"}, {"drop>=1 once:2", ".x.....", "0111000"}, {"drop>=1 once:1000", ".x.....", "0111111"},
		{"drop>=1 always:0", ".xx.", "0110"}, {"drop>=1 always:1", ".xxx.x", "001100"}, {"drop>=1 always:1", "xx.", "110"}, {"drop>=1 always:1000", "xxx.x", "11100"}, {"drop>=1 always:2", "xxxx.xxx", "11110001"},
		{"hazard:128 drop>=1 since", ".x.", "010"}, {"hazard:128 drop>=1 since", "xll.l", "11100"}, {"hazard:128 drop>=1 since", "lll", "000"}, {"hazard:128 drop>=1 since", "llxlbl.l", "00111100"}, {"true drop>=1 since", "..x...", "001111"},
		{"drop>=1 true since", "...", "111"}, {"true not drop>=1 since", ".xx.", "0110"},
	} {
		l, out, got := parsed(t, r.text), marks(r.ticks), ""
		for at := range out {
			if holds.Holds(l, out, at) {
				got += "1"
			} else {
				got += "0"
			}
		}
		if got != r.want {
			t.Errorf("%s over %s: %s, want %s", r.text, r.ticks, got, r.want)
		}
	}
}

// P57.2: no formula, and no place.
func TestWhatDoesNotHold(t *testing.T) {
	yes, out := []api.Term{{Op: api.OpTrue}}, marks("...")
	for _, at := range []int{math.MinInt, -1, 3, 4, math.MaxInt} {
		if holds.Holds(yes, out, at) {
			t.Errorf("at %d", at)
		}
	}
	if holds.Holds(yes, nil, 0) {
		t.Error("nothing was told")
	}
	for _, l := range [][]api.Term{nil, {{}}, {{Op: api.OpNot}}, {{Op: api.OpTrue}, {Op: api.OpTrue}}, {{Op: api.OpAtom, A: 11, B: 3}}, {{Op: api.OpTrue}, {Op: api.OpOnce, A: 1001}}, slices.Repeat(yes, 41), append(slices.Clone(yes), slices.Repeat([]api.Term{{Op: api.OpNot}}, 40)...)} {
		for at := -1; at < 4; at++ {
			if holds.Holds(l, out, at) {
				t.Errorf("%+v at %d", l, at)
			}
		}
	}
	if !holds.Holds(yes, out, 2) {
		t.Error("true at 2")
	}
}

// drawn is a formula of some parts.
func drawn(rnd *rand.Rand, many int) []api.Term {
	atoms := []string{"true", "drop>=1", "hazard:128", "mode>=3", "open>=1", "tick>=2", "volume>=100", "latch>=1", "notes>=1", "level>=2", "buzzer>=1", "pos>=100"}
	parse := func(s string) []api.Term { l, _ := formula.Parse(s); return l }
	switch {
	case many <= 1:
		return parse(atoms[rnd.Intn(len(atoms))])
	case many == 2 || rnd.Intn(3) == 0:
		ops := []api.Term{{Op: api.OpNot}, {Op: api.OpOnce, A: rnd.Intn(6)}, {Op: api.OpAlways, A: rnd.Intn(6)}}
		return append(drawn(rnd, many-1), ops[rnd.Intn(3)])
	}
	left := 1 + rnd.Intn(many-2)
	ops := []api.Term{{Op: api.OpAnd}, {Op: api.OpOr}, {Op: api.OpSince}}
	return append(append(drawn(rnd, left), drawn(rnd, many-1-left)...), ops[rnd.Intn(3)])
}

// random are ticks of which anything is told.
func random(rnd *rand.Rand, many int) []api.Out {
	out := make([]api.Out, many)
	for k := range out {
		out[k] = api.Out{Tick: rnd.Intn(4), Mode: rnd.Intn(8), Latch: 128 * rnd.Intn(2), Notes: rnd.Intn(2), Level: rnd.Intn(4), Buzzer: rnd.Intn(2), Open: rnd.Intn(3) - 1, Pos: 99 + rnd.Intn(2), Volume: 99 + rnd.Intn(2), Drop: rnd.Intn(2) == 0}
	}
	return out
}

// P57.2: any formula over any ticks.
func TestAnyFormulas(t *testing.T) {
	rnd := rand.New(rand.NewSource(57))
	yes := 0
	for range 3000 {
		l, out := drawn(rnd, 1+rnd.Intn(9)), random(rnd, 1+rnd.Intn(12))
		for at := range out {
			want := meant(l, out, at)
			if got := holds.Holds(l, out, at); got != want {
				text, _ := formula.Text(l)
				t.Fatalf("%s over %+v at %d: %v", text, out, at, got)
			}
			if want {
				yes++
			}
		}
	}
	if yes < 3000 {
		t.Errorf("%d held", yes)
	}
}

// P57.3: what comes later changes nothing; once and always are each other's
// contrary; what holds since now holds.
func TestLaws(t *testing.T) {
	rnd := rand.New(rand.NewSource(573))
	not := func(l []api.Term) []api.Term { return append(slices.Clone(l), api.Term{Op: api.OpNot}) }
	for range 2000 {
		l, out := drawn(rnd, 1+rnd.Intn(9)), random(rnd, 20)
		at, back := rnd.Intn(20), rnd.Intn(8)
		so := holds.Holds(l, out, at)
		if holds.Holds(l, out[:at+1], at) != so || holds.Holds(l, append(slices.Clone(out[:at+1]), random(rnd, 5)...), at) != so {
			t.Fatalf("%+v at %d hangs on what comes later", l, at)
		}
		once := append(slices.Clone(l), api.Term{Op: api.OpOnce, A: back})
		always := append(not(l), api.Term{Op: api.OpAlways, A: back}, api.Term{Op: api.OpNot})
		if holds.Holds(once, out, at) != holds.Holds(always, out, at) {
			t.Fatalf("%+v: once and always at %d", l, at)
		}
		since := append(append(drawn(rnd, 3), l...), api.Term{Op: api.OpSince})
		if so && !holds.Holds(since, out, at) {
			t.Fatalf("%+v does not hold at %d", since, at)
		}
	}
}

// P57.2 and R1: formulas that look back far, again and again, over long runs.
func TestLongRuns(t *testing.T) {
	deep := parsed(t, "drop>=1"+strings.Repeat(" once:1000", 39))
	out := marks("x" + strings.Repeat(".", 19999) + "." + "x")
	for at, want := range map[int]bool{0: true, 1000: true, 19000: true, 20000: false, 20001: true} {
		if got := holds.Holds(parsed(t, "drop>=1"+strings.Repeat(" once:1000", 19)), out, at); got != want {
			t.Errorf("nineteen times, at %d: %v", at, got)
		}
		if !holds.Holds(deep, out, at) {
			t.Errorf("at %d: false", at)
		}
	}
	slots, l := scenes.Make(5700, 3000)
	told := session.Run(slots, l)
	for _, text := range []string{"open>=1 not latch>=1 not or", "pos>=1 not open>=1 once:40 or tick>=40 not or", "mode>=7 not mode>=3 since", "drop>=1 once:20 hazard:128 or always:3"} {
		f := parsed(t, text)
		for at := 0; at < len(told); at += 97 {
			if got := holds.Holds(f, told, at); got != meant(f, told, at) {
				t.Fatalf("%s at %d: %v", text, at, got)
			}
		}
	}
}

// R3: what is handed in stays as it was.
func TestMemory(t *testing.T) {
	l, out := parsed(t, "drop>=1 hazard:128 since once:3"), marks("xll..x")
	keptL, kept := slices.Clone(l), slices.Clone(out)
	for at := range out {
		holds.Holds(l, out, at)
	}
	if !slices.Equal(l, keptL) || !slices.Equal(out, kept) {
		t.Errorf("%+v, %+v", l, out)
	}
}

// The chapter's example.
func TestExample(t *testing.T) {
	l, out, many := parsed(t, "drop>=1 once:5"), marks("..x..........."), 0
	for at := range out {
		if holds.Holds(l, out, at) {
			many++
		}
	}
	if many != 6 {
		t.Errorf("%d ticks", many)
	}
}
