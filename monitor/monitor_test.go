package monitor_test

import (
	"math"
	"math/rand"
	"slices"
	"strings"
	"testing"

	"pinchcock/api"
	"pinchcock/formula"
	"pinchcock/holds"
	"pinchcock/monitor"
	"pinchcock/scenes"
	"pinchcock/session"
)

// parsed is the formula of a text that tells one.
func parsed(s string) []api.Term {
	l, wrong := formula.Parse(s)
	if wrong != api.OK {
		panic(s)
	}
	return l
}

// odd are lists of parts that are no formulas.
func odd() [][]api.Term {
	yes := []api.Term{{Op: api.OpTrue}}
	return [][]api.Term{
		nil, {{}}, {{Op: api.OpNot}}, {{Op: api.OpSince}}, {{Op: api.OpTrue}, {Op: api.OpAnd}}, {{Op: api.OpTrue}, {Op: api.OpTrue}}, {{Op: 9}}, {{Op: math.MinInt}}, {{Op: api.OpAtom, A: 11, B: 3}}, {{Op: api.OpTrue}, {Op: api.OpOnce, A: 1001}},
		slices.Repeat(yes, 41), append(slices.Clone(yes), slices.Repeat([]api.Term{{Op: api.OpNot}}, 40)...),
	}
}

// marks are ticks of which each has a drop where the mark is x, and a latch where
// it is l, or both where it is b.
func marks(s string) []api.Out {
	var out []api.Out
	for k, mark := range s {
		o := api.Out{Tick: k, Drop: mark == 'x' || mark == 'b'}
		if mark == 'l' || mark == 'b' {
			o.Latch = api.HzDoor
		}
		out = append(out, o)
	}
	return out
}

// P58.1: a number for each part.
func TestNew(t *testing.T) {
	for text, want := range map[string][]int{
		"true": {0}, "drop>=1 not": {0, 0}, "drop>=1 once:5": {0, -1}, "drop>=1 always:0": {0, -1}, "true true since": {0, 0, 0}, "true once:1 hazard:1 always:2 and not": {0, -1, 0, -1, 0, 0}, "true true or": {0, 0, 0},
	} {
		if got, ok := monitor.New(parsed(text)); !ok || !slices.Equal(got, want) {
			t.Errorf("New(%s): %v, %v, want %v", text, got, ok, want)
		}
	}
	for _, l := range odd() {
		if got, ok := monitor.New(l); ok || got != nil {
			t.Errorf("New(%+v): %v, %v", l, got, ok)
		}
	}
}

// P58.2: what is kept tick by tick, written out.
func TestStep(t *testing.T) {
	for _, r := range []struct {
		text, ticks string
		want        [][]int
		so          string
	}{
		{"true not", "..", [][]int{{0, 0}, {0, 0}}, "00"},
		{"drop>=1 once:1", ".x...x", [][]int{{0, -1}, {0, 0}, {0, 1}, {0, 2}, {0, 3}, {0, 0}}, "011001"},
		{"drop>=1 always:1", "xx.xxx.", [][]int{{0, -1}, {0, -1}, {0, 0}, {0, 1}, {0, 2}, {0, 3}, {0, 0}}, "1100110"},
		{"hazard:128 drop>=1 since", ".lxll.lb", [][]int{{0, 0, 0}, {0, 0, 0}, {0, 0, 1}, {0, 0, 1}, {0, 0, 1}, {0, 0, 0}, {0, 0, 0}, {0, 0, 1}}, "00111001"},
		{"drop>=1 once:0 drop>=1 once:2 and not", "x..", [][]int{{0, 0, 0, 0, 0, 0}, {0, 1, 0, 1, 0, 0}, {0, 2, 0, 2, 0, 0}}, "011"},
		{"drop>=1 hazard:128 or", "xlb.", [][]int{{0, 0, 0}, {0, 0, 0}, {0, 0, 0}, {0, 0, 0}}, "1110"},
	} {
		l := parsed(r.text)
		kept, _ := monitor.New(l)
		for k, o := range marks(r.ticks) {
			was := slices.Clone(kept)
			next, so := monitor.Step(l, kept, o)
			if !slices.Equal(next, r.want[k]) || so != (r.so[k] == '1') {
				t.Errorf("%s over %s, tick %d: %v, %v, want %v", r.text, r.ticks, k, next, so, r.want[k])
			}
			if !slices.Equal(kept, was) {
				t.Errorf("%s: what was kept became %v", r.text, kept)
			}
			kept = next
		}
	}
}

// P58.2: no more than 1001 ticks are told apart.
func TestLongAgo(t *testing.T) {
	l := parsed("drop>=1 once:1000 drop>=1 not always:1000 and")
	kept, _ := monitor.New(l)
	for k, o := range marks("x" + strings.Repeat(".", 3000)) {
		next, _ := monitor.Step(l, kept, o)
		want := min(k, 1001)
		if !slices.Equal(next, []int{0, want, 0, 0, want, 0}) {
			t.Fatalf("tick %d: %v", k, next)
		}
		kept = next
	}
	so := monitor.Run(parsed("drop>=1 once:1000"), marks("x"+strings.Repeat(".", 1500)))
	if !so[1000] || so[1001] || so[1500] {
		t.Error("a thousand ticks ago")
	}
	so = monitor.Run(parsed("drop>=1 always:1000"), marks("."+strings.Repeat("x", 1500)))
	if so[1000] || !so[1001] || !so[1500] {
		t.Error("for a thousand ticks")
	}
}

// P58.2: as many numbers as parts, and a formula; else nothing.
func TestStepOfNone(t *testing.T) {
	l := parsed("drop>=1 once:5 not")
	o := api.Out{}
	for _, kept := range [][]int{nil, {}, {0}, {0, -1}, {0, -1, 0, 0}} {
		if got, so := monitor.Step(l, kept, o); got != nil || so {
			t.Errorf("Step of %v: %v, %v", kept, got, so)
		}
	}
	for _, l := range odd() {
		if got, so := monitor.Step(l, make([]int, len(l)), o); got != nil || so {
			t.Errorf("Step of %+v: %v, %v", l, got, so)
		}
	}
	// Whatever the numbers are, it ends.
	for _, n := range []int{math.MinInt, -2, 2, 1002, math.MaxInt} {
		monitor.Step(l, []int{n, n, n}, o)
		monitor.Step(parsed("true true since"), []int{n, n, n}, o)
	}
}

// P58.3: of each tick, from New on.
func TestRun(t *testing.T) {
	if got := monitor.Run(parsed("true"), nil); len(got) != 0 {
		t.Errorf("no ticks: %v", got)
	}
	if got := monitor.Run(parsed("tick>=1 drop>=1 or"), marks("..x")); !slices.Equal(got, []bool{false, true, true}) {
		t.Errorf("%v", got)
	}
	for _, l := range odd() {
		if got := monitor.Run(l, marks("..x")); !slices.Equal(got, []bool{false, false, false}) {
			t.Errorf("Run(%+v): %v", l, got)
		}
	}
}

// drawn is a formula of some parts.
func drawn(rnd *rand.Rand, many int) []api.Term {
	atoms := []string{"true", "drop>=1", "hazard:128", "mode>=3", "open>=1", "tick>=2", "volume>=100", "latch>=1", "notes>=1", "level>=2", "buzzer>=1", "pos>=100"}
	switch {
	case many <= 1:
		return parsed(atoms[rnd.Intn(len(atoms))])
	case many == 2 || rnd.Intn(3) == 0:
		ops := []api.Term{{Op: api.OpNot}, {Op: api.OpOnce, A: rnd.Intn(9)}, {Op: api.OpAlways, A: rnd.Intn(9)}}
		return append(drawn(rnd, many-1), ops[rnd.Intn(3)])
	}
	left := 1 + rnd.Intn(many-2)
	ops := []api.Term{{Op: api.OpAnd}, {Op: api.OpOr}, {Op: api.OpSince}}
	return append(append(drawn(rnd, left), drawn(rnd, many-1-left)...), ops[rnd.Intn(3)])
}

// hold holds Run, and Step one tick at a time, against what holds.
func hold(t *testing.T, l []api.Term, out []api.Out, every int) {
	t.Helper()
	run := monitor.Run(l, out)
	kept, ok := monitor.New(l)
	if !ok || len(run) != len(out) {
		t.Fatalf("%+v: %d of %d", l, len(run), len(out))
	}
	for at, o := range out {
		next, so := monitor.Step(l, kept, o)
		if kept = next; so != run[at] {
			t.Fatalf("%+v at %d: Step and Run", l, at)
		}
		if at%every == 0 && so != holds.Holds(l, out, at) {
			text, _ := formula.Text(l)
			t.Fatalf("%s at %d: %v", text, at, so)
		}
	}
}

// P58.4: any formula over any ticks is so just where it holds.
func TestAnyFormulas(t *testing.T) {
	rnd := rand.New(rand.NewSource(58))
	for range 3000 {
		out := make([]api.Out, rnd.Intn(40))
		for k := range out {
			out[k] = api.Out{Tick: rnd.Intn(4), Mode: rnd.Intn(8), Latch: 128 * rnd.Intn(2), Notes: rnd.Intn(2), Level: rnd.Intn(4), Buzzer: rnd.Intn(2), Open: rnd.Intn(3) - 1, Pos: 99 + rnd.Intn(2), Volume: 99 + rnd.Intn(2), Drop: rnd.Intn(2) == 0}
		}
		hold(t, drawn(rnd, 1+rnd.Intn(20)), out, 1)
	}
}

// P58.4: what controllers tell.
func TestWhateverWasTold(t *testing.T) {
	rnd := rand.New(rand.NewSource(584))
	texts := []string{"open>=1 not latch>=1 not or", "pos>=1 not open>=1 once:400 or tick>=400 not or", "latch>=1 not always:700", "mode>=7 not mode>=3 since", "drop>=1 once:1000 not", "volume>=500 mode>=3 and drop>=1 since once:30"}
	for number := range 3 {
		slots, l := scenes.Make(5800+number, 6000)
		out := session.Run(slots, l)
		for _, text := range texts {
			hold(t, parsed(text), out, 331)
		}
		for range 10 {
			hold(t, drawn(rnd, 12), out, 331)
		}
	}
}

// R3: what is answered is new memory, and what is handed in stays as it was.
func TestMemory(t *testing.T) {
	l := parsed("drop>=1 once:5 hazard:128 since")
	kept, _ := monitor.New(l)
	other, _ := monitor.New(l)
	kept[0] = -9
	if other[0] != 0 {
		t.Error("New shares memory")
	}
	room := append(make([]int, 0, 9), other...)
	next, _ := monitor.Step(l, room, api.Out{Drop: true})
	for k := range next {
		next[k] = -9
	}
	_ = append(next, -9)
	if !slices.Equal(room, other) || !slices.Equal(room[:9][4:], make([]int, 5)) {
		t.Errorf("%v", room[:9])
	}
	if text, _ := formula.Text(l); text != "drop>=1 once:5 hazard:128 since" {
		t.Errorf("%s", text)
	}
}

// The chapter's example.
func TestExample(t *testing.T) {
	if got := monitor.Run(parsed("drop>=1 once:1"), marks("x..")); !slices.Equal(got, []bool{true, true, false}) {
		t.Errorf("%v", got)
	}
}
