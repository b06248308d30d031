package plant_test

import (
	"math"
	"math/rand"
	"testing"

	"pinchcock/api"
	"pinchcock/eye"
	"pinchcock/plant"
)

// units are the parts of a drop of each set.
var units = map[int]int{10: 36000000, 15: 24000000, 20: 18000000, 60: 6000000}

// wild are numbers at and beyond all limits.
var wild = []int{math.MinInt, -1 << 40, -301, -1, 0, 1, 2, 3, 10, 15, 20, 60, 150, 256, 299, 300, 301, 1023, 1024, 1025, 5999999, 6000000, 6000001, 36000000, 1<<40 - 1, 1 << 40, 1<<40 + 1, math.MaxInt - 1, math.MaxInt}

// P48.1: the parts of a drop of each set, and of none.
func TestUnit(t *testing.T) {
	for set := -100; set <= 200; set++ {
		if got := plant.Unit(set); got != units[set] {
			t.Errorf("Unit(%d): %d, want %d", set, got, units[set])
		}
	}
	for _, set := range wild {
		if got := plant.Unit(set); got != units[set] {
			t.Errorf("Unit(%d): %d, want %d", set, got, units[set])
		}
	}
}

// as is the number from 0 to most that is nearest to n.
func as(n, most int) int {
	if n < 0 {
		return 0
	}
	if n > most {
		return most
	}
	return n
}

// P48.2: eight times the opening times the height, whatever these are.
func TestFlow(t *testing.T) {
	for _, open := range wild {
		for _, head := range wild {
			if got, want := plant.Flow(open, head), 8*as(open, 300)*as(head, 1024); got != want {
				t.Errorf("Flow(%d, %d): %d, want %d", open, head, got, want)
			}
		}
	}
	if got := plant.Flow(300, 1024); got != 2457600 {
		t.Errorf("the greatest flow: %d", got)
	}
}

// wanted is what Step is to tell, by the chapter.
func wanted(p api.Plant, open, head, set int) (api.Plant, int) {
	unit := units[set]
	if unit != 0 && p.Left > 0 {
		p.Part = as(p.Part, unit) + plant.Flow(open, head)
		if p.Part >= unit {
			p = api.Plant{Part: p.Part - unit, Left: p.Left - 1, Fell: as(p.Fell, 1<<40) + 1, Shade: 3}
		}
	}
	if p.Shade > 0 {
		p.Shade--
		return p, 2000
	}
	return p, 3000
}

// P48.3: a tick at a time, by numbers written out.
func TestStep(t *testing.T) {
	for _, r := range []struct {
		name            string
		p               api.Plant
		open, head, set int
		want            api.Plant
		light           int
	}{
		{"it flows", api.Plant{Left: 5, Part: 7}, 10, 100, 20, api.Plant{Left: 5, Part: 8007}, 3000},
		{"it is shut", api.Plant{Left: 5, Part: 7}, 0, 100, 20, api.Plant{Left: 5, Part: 7}, 3000},
		{"a drop falls", api.Plant{Left: 5, Part: 17999999, Fell: 4}, 1, 1, 20, api.Plant{Left: 4, Part: 7, Fell: 5, Shade: 2}, 2000},
		{"just a drop", api.Plant{Left: 5, Part: 17999992, Fell: 4}, 1, 1, 20, api.Plant{Left: 4, Part: 0, Fell: 5, Shade: 2}, 2000},
		{"not quite a drop", api.Plant{Left: 5, Part: 17999991, Fell: 4}, 1, 1, 20, api.Plant{Left: 5, Part: 17999999, Fell: 4}, 3000},
		{"a whole part", api.Plant{Left: 5, Part: 18000000}, 0, 0, 20, api.Plant{Left: 4, Fell: 1, Shade: 2}, 2000},
		{"more than a drop", api.Plant{Left: 5, Part: 99000000}, 1, 1, 60, api.Plant{Left: 4, Part: 8, Fell: 1, Shade: 2}, 2000},
		{"a part below 0", api.Plant{Left: 5, Part: -9}, 1, 1, 20, api.Plant{Left: 5, Part: 8}, 3000},
		{"the last one", api.Plant{Left: 1, Part: 17999999}, 1, 1, 20, api.Plant{Left: 0, Part: 7, Fell: 1, Shade: 2}, 2000},
		{"none left", api.Plant{Left: 0, Part: 18000000, Fell: 9}, 300, 1024, 20, api.Plant{Left: 0, Part: 18000000, Fell: 9}, 3000},
		{"fewer than none", api.Plant{Left: -1, Part: -7, Fell: -3}, 300, 1024, 20, api.Plant{Left: -1, Part: -7, Fell: -3}, 3000},
		{"no set", api.Plant{Left: 3, Part: 99000000, Fell: 9}, 300, 1024, 30, api.Plant{Left: 3, Part: 99000000, Fell: 9}, 3000},
		{"no set, shaded", api.Plant{Left: 3, Shade: 2}, 300, 1024, 0, api.Plant{Left: 3, Shade: 1}, 2000},
		{"shaded, and none left", api.Plant{Shade: 1}, 300, 1024, 20, api.Plant{}, 2000},
		{"shaded for long", api.Plant{Left: 2, Shade: math.MaxInt}, 0, 0, 20, api.Plant{Left: 2, Shade: math.MaxInt - 1}, 2000},
		{"shaded below 0", api.Plant{Left: 2, Shade: -4}, 0, 0, 20, api.Plant{Left: 2, Shade: -4}, 3000},
		{"a drop while it is shaded", api.Plant{Left: 2, Part: 6000000, Shade: 9}, 0, 0, 60, api.Plant{Left: 1, Fell: 1, Shade: 2}, 2000},
		{"fell below 0", api.Plant{Left: 2, Part: 6000000, Fell: -8}, 0, 0, 60, api.Plant{Left: 1, Fell: 1, Shade: 2}, 2000},
		{"fell at the limit", api.Plant{Left: 2, Part: 6000000, Fell: 1 << 40}, 0, 0, 60, api.Plant{Left: 1, Fell: 1<<40 + 1, Shade: 2}, 2000},
		{"fell beyond the limit", api.Plant{Left: 2, Part: 6000000, Fell: math.MaxInt}, 0, 0, 60, api.Plant{Left: 1, Fell: 1<<40 + 1, Shade: 2}, 2000},
	} {
		p, light := plant.Step(r.p, r.open, r.head, r.set)
		if p != r.want || light != r.light {
			t.Errorf("%s: %+v and %d, want %+v and %d", r.name, p, light, r.want, r.light)
		}
	}
}

// P48.3 and R1: whatever the numbers are.
func TestStepOfAny(t *testing.T) {
	rnd := rand.New(rand.NewSource(48))
	one := func() int { return wild[rnd.Intn(len(wild))] }
	for range 200000 {
		p := api.Plant{Left: one(), Part: one(), Shade: one(), Fell: one()}
		open, head, set := one(), one(), []int{10, 15, 20, 60, one()}[rnd.Intn(5)]
		got, light := plant.Step(p, open, head, set)
		if want, dark := wanted(p, open, head, set); got != want || light != dark {
			t.Fatalf("Step(%+v, %d, %d, %d): %+v and %d, want %+v and %d", p, open, head, set, got, light, want, dark)
		}
	}
}

// P48.4: what has flowed is what fell, and the part, tick by tick.
func TestWhatHasFlowed(t *testing.T) {
	rnd := rand.New(rand.NewSource(484))
	for set, unit := range units {
		p, flowed := api.Plant{Left: 200}, 0
		for range 20000 {
			open, head := rnd.Intn(320)-10, rnd.Intn(1100)-20
			if p.Left > 0 {
				flowed += plant.Flow(open, head)
			}
			p, _ = plant.Step(p, open, head, set)
			if flowed != p.Fell*unit+p.Part || p.Left+p.Fell != 200 || p.Part < 0 || p.Part >= unit {
				t.Fatalf("set %d: %d parts flowed, %+v", set, flowed, p)
			}
		}
		if p.Left != 0 || p.Fell != 200 {
			t.Errorf("set %d: %+v", set, p)
		}
	}
}

// P48.5: of drops that are 8 ticks apart, or more, an eye sees each one, in the
// tick behind the one in which it fell.
func TestAnEyeSeesDrops(t *testing.T) {
	rnd := rand.New(rand.NewSource(485))
	fell := 0
	for set, unit := range units {
		for _, steady := range []int{1, 2, 40, 150, 300} {
			p := api.Plant{Left: 300}
			var lights []int
			var drops []bool
			gap := 100
			for tick := range 6000 {
				open := steady
				if rnd.Intn(3) == 0 {
					open = rnd.Intn(301)
				}
				head := 1024
				// What would be the next drop too soon waits.
				if gap < 7 && p.Part+plant.Flow(open, head) >= unit || tick == 0 {
					open = 0
				}
				was := p.Fell
				next, light := plant.Step(p, open, head, set)
				gap++
				if next.Fell > was {
					gap = 0
					fell++
				}
				p, lights, drops = next, append(lights, light), append(drops, next.Fell > was)
			}
			for tick, seen := range eye.Look(lights) {
				if want := tick > 0 && drops[tick-1]; seen.Drop != want {
					t.Fatalf("set %d, open %d, tick %d: %v, want %v", set, steady, tick, seen.Drop, want)
				}
			}
		}
	}
	if fell < 2000 {
		t.Errorf("%d drops alone", fell)
	}
}

// P48.5: 8 ticks apart, or 9, for long.
func TestDropsEightTicksApart(t *testing.T) {
	p, last, gaps := api.Plant{Left: 1000}, -1, map[int]int{}
	var lights []int
	drops := map[int]bool{}
	for tick := range 7000 {
		was := p.Fell
		// 8 times 300 times 312 is a little less than an eighth of a drop of the set 60.
		next, light := plant.Step(p, 300, 312, 60)
		if p, lights = next, append(lights, light); p.Fell > was {
			drops[tick] = true
			if last >= 0 {
				gaps[tick-last]++
			}
			last = tick
		}
	}
	if len(gaps) != 2 || gaps[8] < 800 || gaps[9] < 1 {
		t.Errorf("gaps: %v", gaps)
	}
	for tick, seen := range eye.Look(lights) {
		if seen.Drop != drops[tick-1] {
			t.Fatalf("tick %d: %v", tick, seen.Drop)
		}
	}
}

// The chapter's example.
func TestExample(t *testing.T) {
	if got := plant.Flow(300, 256); got != 614400 {
		t.Errorf("Flow(300, 256): %d", got)
	}
}
