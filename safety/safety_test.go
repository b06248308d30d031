package safety_test

import (
	"fmt"
	"math"
	"math/rand"
	"slices"
	"testing"

	"pinchcock/api"
	"pinchcock/formula"
	"pinchcock/holds"
	"pinchcock/safety"
	"pinchcock/scenes"
	"pinchcock/session"
)

// rules are the rules, in their order.
var rules = []string{
	"open>=1 not latch>=1 not or",
	"mode>=7 not latch>=1 or",
	"latch>=1 not mode>=7 or",
	"open>=1 not mode>=2 mode>=4 not and mode>=5 mode>=6 not and or or",
	"level>=3 not buzzer>=1 or",
	"buzzer>=2 not level>=2 or",
	"latch>=1 not level>=2 or",
	"notes>=1 not level>=1 or",
	"pos>=1 not open>=1 once:400 or tick>=400 not or",
	"mode>=5 mode>=6 not and not mode>=5 mode>=6 not and mode>=3 mode>=4 not and since or",
	"mode>=6 mode>=7 not and not mode>=6 mode>=7 not and mode>=5 mode>=6 not and since or",
	"hazard:128 not mode>=7 or",
	"tick>=1 latch>=1 not or",
}

// P59.1: the rules, each of which is a formula.
func TestRules(t *testing.T) {
	got := safety.Rules()
	if !slices.Equal(got, rules) {
		t.Errorf("%q", got)
	}
	for _, text := range got {
		l, wrong := formula.Parse(text)
		if again, ok := formula.Text(l); wrong != api.OK || !ok || again != text {
			t.Errorf("%s: %d", text, wrong)
		}
	}
	got[0] = "true"
	if safety.Rules()[0] != rules[0] {
		t.Error("the rules share memory")
	}
}

// calm is what is told of ticks from one on, at which nothing is amiss.
func calm(mode, from, many int) []api.Out {
	var out []api.Out
	for k := range many {
		out = append(out, api.Out{Tick: from + k, Mode: mode})
	}
	return out
}

// found are the places at which each rule is broken that is broken.
func found(l []api.Find) map[int][]int {
	m := map[int][]int{}
	for _, f := range l {
		m[f.Rule] = append(m[f.Rule], f.At)
	}
	return m
}

// P59.2 and P59.5: each rule, broken in the second of three ticks.
func TestEachRule(t *testing.T) {
	for _, r := range []struct {
		name   string
		change func(*api.Out)
		want   map[int][]int
	}{
		{"nothing", func(o *api.Out) {}, nil},
		{"open in a fault", func(o *api.Out) { o.Open, o.Mode = 5, 7 }, map[int][]int{1: {1}, 3: {1}}},
		{"open, and latched", func(o *api.Out) { o.Open, o.Mode, o.Latch, o.Level = 5, 3, 4, 2 }, map[int][]int{0: {1}, 2: {1}}},
		{"a fault without a latch", func(o *api.Out) { o.Mode = 7 }, map[int][]int{1: {1}}},
		{"latched, and no fault", func(o *api.Out) { o.Latch, o.Level = 4, 2 }, map[int][]int{2: {1}}},
		{"open while it is idle", func(o *api.Out) { o.Open = 5 }, map[int][]int{3: {1}}},
		{"open while it primes", func(o *api.Out) { o.Open, o.Mode = 5, 2 }, nil},
		{"open while it runs", func(o *api.Out) { o.Open, o.Mode = 5, 3 }, nil},
		{"open while it is paused", func(o *api.Out) { o.Open, o.Mode = 5, 4 }, map[int][]int{3: {1}}},
		{"open while the vein is kept open", func(o *api.Out) { o.Open, o.Mode = 5, 5 }, map[int][]int{9: {1}}},
		{"high, and silent", func(o *api.Out) { o.Level = 3 }, map[int][]int{4: {1}}},
		{"high, and to be heard", func(o *api.Out) { o.Level, o.Buzzer = 3, 1 }, nil},
		{"a loud buzzer", func(o *api.Out) { o.Level, o.Buzzer = 1, 2 }, map[int][]int{5: {1}}},
		{"latched, and low", func(o *api.Out) { o.Mode, o.Latch, o.Level = 7, 4, 1 }, map[int][]int{6: {1}}},
		{"noted, and nothing shown", func(o *api.Out) { o.Notes = 8 }, map[int][]int{7: {1}}},
		{"noted, and shown", func(o *api.Out) { o.Notes, o.Level = 8, 1 }, nil},
		{"not shut", func(o *api.Out) { o.Pos = 1 }, map[int][]int{8: {1}}},
		{"not shut, but at first", func(o *api.Out) { o.Pos, o.Tick = 1, 399 }, nil},
		{"the vein is kept open", func(o *api.Out) { o.Mode = 5 }, map[int][]int{9: {1}}},
		{"done", func(o *api.Out) { o.Mode = 6 }, map[int][]int{10: {1}}},
		{"the door, and no fault", func(o *api.Out) { o.Latch, o.Level = 128, 2 }, map[int][]int{2: {1}, 11: {1}}},
		{"the door", func(o *api.Out) { o.Mode, o.Latch, o.Level = 7, 128, 2 }, nil},
		{"latched ahead of the first tick", func(o *api.Out) { o.Mode, o.Latch, o.Level, o.Tick = 7, 4, 2, -1 }, map[int][]int{12: {1}}},
		{"the first tick", func(o *api.Out) { o.Mode, o.Latch, o.Level, o.Tick = 7, 4, 2, 0 }, map[int][]int{12: {1}}},
	} {
		out := calm(1, 500, 3)
		r.change(&out[1])
		got := found(safety.Check(out))
		if len(got) != len(r.want) || fmt.Sprint(got) != fmt.Sprint(r.want) && len(r.want) > 0 {
			t.Errorf("%s: %v, want %v", r.name, got, r.want)
		}
	}
}

// P59.2: rules that look back do so within one time with power.
func TestTimesWithPower(t *testing.T) {
	for _, r := range []struct {
		name string
		out  []api.Out
		want map[int][]int
	}{
		{"nothing", nil, nil},
		{"the vein behind a run", slices.Concat(calm(3, 7, 2), calm(5, 9, 2), calm(6, 11, 2)), nil},
		{"the vein behind a pause", slices.Concat(calm(3, 7, 2), calm(4, 9, 1), calm(5, 10, 2)), map[int][]int{9: {3, 4}}},
		{"the vein behind a cut", slices.Concat(calm(3, 7, 2), calm(5, 0, 2)), map[int][]int{9: {2, 3}}},
		{"done behind a cut", slices.Concat(calm(3, 7, 2), calm(5, 9, 2), calm(6, 0, 1), calm(6, 1, 1)), map[int][]int{10: {4, 5}}},
		{"done behind a cut, and another one", slices.Concat(calm(6, 0, 1), calm(6, 0, 1)), map[int][]int{10: {0, 1}}},
		{"the first one of all cuts nothing", slices.Concat(calm(3, 0, 1), calm(5, 1, 1)), nil},
		{"no cut by another tick", slices.Concat(calm(3, 7, 2), calm(5, 1, 2)), nil},
	} {
		if got := found(safety.Check(r.out)); len(got) != len(r.want) || fmt.Sprint(got) != fmt.Sprint(r.want) && len(r.want) > 0 {
			t.Errorf("%s: %v, want %v", r.name, got, r.want)
		}
	}
	// What was open is shut within four hundred ticks, in one time with power.
	shut := calm(1, 500, 450)
	for k := range shut {
		shut[k].Pos = 1
	}
	shut[10].Open, shut[10].Mode = 5, 3
	var want []int
	for k := range shut {
		if k < 10 || k > 410 {
			want = append(want, k)
		}
	}
	if got := found(safety.Check(shut)); len(got) != 1 || !slices.Equal(got[8], want) {
		t.Errorf("%v", got)
	}
}

// wanted is what Check is to find, by the chapter and by what holds.
func wanted(out []api.Out) []api.Find {
	var finds []api.Find
	for rule, text := range rules {
		l, _ := formula.Parse(text)
		begin := 0
		for at, o := range out {
			if at > 0 && o.Tick == 0 {
				begin = at
			}
			if !holds.Holds(l, out[begin:], at-begin) {
				finds = append(finds, api.Find{Rule: rule, At: at})
			}
		}
	}
	return finds
}

// P59.2 and P59.5: of anything that may be told, or may not, in their order.
func TestAnythingTold(t *testing.T) {
	rnd := rand.New(rand.NewSource(59))
	broken := map[int]int{}
	for range 1500 {
		out := make([]api.Out, rnd.Intn(25))
		for k := range out {
			out[k] = api.Out{Tick: rnd.Intn(9) * 100, Mode: rnd.Intn(9), Latch: []int{0, 0, 128, 4, 132}[rnd.Intn(5)], Notes: rnd.Intn(2), Level: rnd.Intn(4), Buzzer: rnd.Intn(4), Open: rnd.Intn(3) - 1, Pos: rnd.Intn(2)}
		}
		got := safety.Check(out)
		if want := wanted(out); !slices.Equal(got, want) {
			t.Fatalf("%+v: %v, want %v", out, got, want)
		}
		for _, f := range got {
			broken[f.Rule]++
		}
	}
	for rule := range rules {
		if broken[rule] < 50 {
			t.Errorf("the rule %d was broken %d times", rule, broken[rule])
		}
	}
}

// P59.3: a line for each.
func TestText(t *testing.T) {
	if got := safety.Text(nil); got != "" {
		t.Errorf("nothing: %q", got)
	}
	for rule, text := range rules {
		if got, want := safety.Text([]api.Find{{Rule: rule, At: 12}, {Rule: 0, At: 0}}), "12: "+text+"\n0: "+rules[0]+"\n"; got != want {
			t.Errorf("%q, want %q", got, want)
		}
	}
	for _, n := range []int{math.MinInt, -1, 13, math.MaxInt} {
		if got := safety.Text([]api.Find{{Rule: n, At: -5}}); got != "0: ?\n" {
			t.Errorf("the rule %d: %q", n, got)
		}
	}
	if got := safety.Text([]api.Find{{At: math.MinInt}, {Rule: 12, At: math.MaxInt}}); got != "0: "+rules[0]+"\n9223372036854775807: "+rules[12]+"\n" {
		t.Errorf("%q", got)
	}
}

// P59.4: whatever a script brings, no rule is broken.
func TestNoRuleIsBroken(t *testing.T) {
	for number := range 24 {
		slots, l := scenes.Make(5900+number, 8000)
		if got := safety.Check(session.Run(slots, l)); len(got) != 0 {
			t.Errorf("the scene %d: %s", number, safety.Text(got[:1]))
		}
	}
}

// P59.5: of what a controller told, changed in one place, that place is found.
func TestWhatIsBrokenIsFound(t *testing.T) {
	rnd := rand.New(rand.NewSource(595))
	slots, l := scenes.Make(5950, 3000)
	out := session.Run(slots, l)
	for range 60 {
		at := rnd.Intn(len(out))
		was := out[at]
		out[at].Latch, out[at].Mode, out[at].Open = 128, 3, 9
		got := found(safety.Check(out))
		for _, rule := range []int{0, 2, 11} {
			if !slices.Contains(got[rule], at) || len(got[rule]) != 1 {
				t.Fatalf("the rule %d at %d: %v", rule, at, got)
			}
		}
		out[at] = was
	}
	if got := safety.Check(out); len(got) != 0 {
		t.Errorf("%v", got)
	}
}

// The chapter's example: the first and the fourth rule are broken.
func TestExample(t *testing.T) {
	got := safety.Check([]api.Out{{Tick: 5, Mode: api.ModeFault, Latch: api.HzStream, Level: 3, Buzzer: 3, Open: 5}})
	if want := []api.Find{{Rule: 0}, {Rule: 3}}; !slices.Equal(got, want) {
		t.Errorf("%v", got)
	}
}
