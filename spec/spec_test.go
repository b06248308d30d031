package spec_test

import (
	"math"
	"math/rand"
	"slices"
	"testing"

	"pinchcock/api"
	"pinchcock/eye"
	"pinchcock/spec"
)

// runs is so many ticks of the one, then of the other, and so on.
func runs[T any](one, other T, counts ...int) []T {
	all := []T{}
	for i, n := range counts {
		all = append(all, slices.Repeat([]T{[]T{one, other}[i%2]}, n)...)
	}
	return all
}

// lights is so many ticks of bright light, then of dark light, and so on.
func lights(counts ...int) []int {
	return runs(3000, 2000, counts...)
}

// ticks is so many clear ticks, then shaded ones, and so on.
func ticks(counts ...int) []bool {
	return runs(false, true, counts...)
}

// nearest is the number from 0 to most that is nearest to n.
func nearest(n, most int) int {
	return min(max(n, 0), most)
}

// followed is the base behind a light that is not shaded, rounded down.
func followed(base, light int) int {
	missing := 64*nearest(light, 4095) - base
	n := missing / 64
	if n*64 > missing {
		n--
	}
	return base + n
}

// wantedLevels are the levels that are to be, and whether it is to be shaded, by
// the chapters, written out.
func wantedLevels(l []int) ([]int, []bool) {
	levels, shades := []int{}, []bool{}
	base, shaded := 0, false
	for i, light := range l {
		if i == 0 {
			base = 64 * nearest(light, 4095)
		}
		dark := base/64 - min(max(light, -api.Top), api.Top)
		shaded = dark >= 400 || dark > 200 && shaded
		if !shaded {
			base = followed(base, light)
		}
		levels, shades = append(levels, base/64), append(shades, shaded)
	}
	return levels, shades
}

// firmAt is whether it is to be firmly shaded in the tick t: gone back from it
// to the last two that are the same.
func firmAt(s []bool, t int) bool {
	for ; t >= 1; t-- {
		if s[t] == s[t-1] {
			return s[t]
		}
	}
	return false
}

// wantedDrops are the ticks in which there are to be drops.
func wantedDrops(l []int) []int {
	_, shades := wantedLevels(l)
	drops := []int{}
	for t := range l {
		ahead := t > 0 && firmAt(shades, t-1)
		near := slices.ContainsFunc(drops, func(d int) bool { return d >= t-4 })
		if firmAt(shades, t) && !ahead && !near {
			drops = append(drops, t)
		}
	}
	return drops
}

// anyLights are lights that go up and down, drip, flicker, or are wild.
func anyLights(rnd *rand.Rand, size int) []int {
	l, adc := make([]int, size), 1000+rnd.Intn(3096)
	dip := 150 + rnd.Intn(700)
	for i := range l {
		switch rnd.Intn(8) {
		case 0:
			adc = nearest(adc+rnd.Intn(41)-20, 4095)
		case 1:
			dip = 150 + rnd.Intn(700)
		}
		l[i] = adc
		if rnd.Intn(3) == 0 || i > 0 && l[i-1] < adc-100 && rnd.Intn(2) == 0 {
			l[i] = adc - dip
		}
		if rnd.Intn(60) == 0 {
			l[i] = int(rnd.Uint64()) >> rnd.Intn(63)
		}
	}
	return l
}

// P23.1: the level behind each light: the first one is that light, others go a
// 64th nearer, and where it is shaded it stays.
func TestLevels(t *testing.T) {
	rows := []struct{ l, want []int }{
		{nil, nil}, {[]int{}, nil}, {[]int{100}, []int{100}}, {[]int{0}, []int{0}}, {[]int{4095}, []int{4095}},
		{[]int{100, 164}, []int{100, 101}}, {[]int{100, 163, 164}, []int{100, 100, 101}}, {[]int{3000, 2601}, []int{3000, 2993}},
		{[]int{3000, 2600}, []int{3000, 3000}}, {[]int{3000, 2000, 2000, 2700}, []int{3000, 3000, 3000, 3000}},
		{[]int{3000, 2700, 2700}, []int{3000, 2995, 2990}}, {[]int{3000, 2000, 2800}, []int{3000, 3000, 2996}}, {[]int{1000, 4095}, []int{1000, 1048}},
		{[]int{-5}, []int{0}}, {[]int{5000}, []int{4095}}, {[]int{math.MaxInt, math.MinInt}, []int{4095, 4095}}, {[]int{math.MinInt, math.MaxInt}, []int{0, 63}},
	}
	for _, r := range rows {
		if got := spec.Levels(r.l); !slices.Equal(got, r.want) {
			t.Errorf("Levels(%v): %v, want %v", r.l, got, r.want)
		}
	}
}

// P23.1: whether each light is shaded, by the level of the base ahead of it, and
// by whether the light ahead was.
func TestShades(t *testing.T) {
	rows := []struct {
		l    []int
		want []bool
	}{
		{nil, nil}, {[]int{}, nil}, {[]int{0}, ticks(1)}, {[]int{3000}, ticks(1)}, {[]int{3000, 2600}, ticks(1, 1)}, {[]int{3000, 2601}, ticks(2)},
		{[]int{3000, 2700}, ticks(2)}, {[]int{3000, 2600, 2700}, ticks(1, 2)}, {[]int{3000, 2600, 2799}, ticks(1, 2)}, {[]int{3000, 2600, 2800}, ticks(1, 1, 1)},
		{[]int{3000, 2600, 2800, 2700}, ticks(1, 1, 2)}, {[]int{3000, 2601, 2600}, ticks(3)}, {[]int{3000, 2601, 2593}, ticks(2, 1)}, {[]int{3000, 2601, 2594}, ticks(3)},
		{lights(2, 3, 2, 1, 1), ticks(2, 3, 2, 1, 1)}, {[]int{2000, 3000, 2000}, ticks(3)}, {[]int{400, 0}, ticks(1, 1)}, {[]int{399, 0}, ticks(2)},
		{[]int{math.MaxInt, math.MinInt}, ticks(1, 1)}, {[]int{math.MinInt}, ticks(0, 1)}, {[]int{-399}, ticks(1)}, {[]int{-400}, ticks(0, 1)}, {[]int{math.MaxInt, math.MaxInt}, ticks(2)},
	}
	for _, r := range rows {
		if got := spec.Shades(r.l); !slices.Equal(got, r.want) {
			t.Errorf("Shades(%v): %v, want %v", r.l, got, r.want)
		}
	}
}

// P23.1: of any lights it is what the chapters tell.
func TestLevelsAndShadesOfAnyLights(t *testing.T) {
	rnd := rand.New(rand.NewSource(231))
	for size := range 400 {
		l := anyLights(rnd, size)
		levels, shades := wantedLevels(l)
		if got := spec.Levels(l); !slices.Equal(got, levels) {
			t.Fatalf("Levels(%v): %v, want %v", l, got, levels)
		}
		if got := spec.Shades(l); !slices.Equal(got, shades) {
			t.Fatalf("Shades(%v): %v, want %v", l, got, shades)
		}
	}
}

// P23.2: by the last two that are the same; not, if there are none.
func TestFirms(t *testing.T) {
	rows := []struct{ s, want []bool }{
		{nil, nil}, {[]bool{}, nil}, {ticks(1), ticks(1)}, {ticks(0, 1), ticks(1)}, {ticks(0, 2), ticks(1, 1)}, {ticks(0, 3), ticks(1, 2)},
		{ticks(1, 1), ticks(2)}, {ticks(1, 2), ticks(2, 1)}, {ticks(1, 1, 1, 1, 1, 1), ticks(6)}, {ticks(0, 1, 1, 1, 1, 2), ticks(5, 1)},
		{ticks(0, 2, 1, 1, 1, 1), ticks(1, 5)}, {ticks(0, 2, 2), ticks(1, 2, 1)}, {ticks(2, 2, 1, 1, 2), ticks(3, 4, 1)}, {ticks(2, 3, 3, 1, 3), ticks(3, 3, 6)},
	}
	for _, r := range rows {
		if got := spec.Firms(r.s); !slices.Equal(got, r.want) {
			t.Errorf("Firms(%v): %v, want %v", r.s, got, r.want)
		}
	}
}

// P23.2: of each row of twelve, and of those that are shorter.
func TestFirmsOfAllTicks(t *testing.T) {
	for size := range 13 {
		for bits := range 1 << size {
			s, want := make([]bool, size), make([]bool, size)
			for i := range s {
				s[i] = bits>>i&1 != 0
			}
			for i := range want {
				want[i] = firmAt(s, i)
			}
			if got := spec.Firms(s); !slices.Equal(got, want) {
				t.Fatalf("Firms(%v): %v, want %v", s, got, want)
			}
		}
	}
}

// drops is a row of Drops.
type drops struct{ l, want []int }

// areDrops runs the rows.
func areDrops(t *testing.T, rows []drops) {
	t.Helper()
	for _, r := range rows {
		if got := spec.Drops(r.l); !slices.Equal(got, r.want) {
			t.Fatalf("Drops(%v): %v, want %v", r.l, got, r.want)
		}
	}
}

// P23.3: where it comes to be firmly shaded, and no drop is in the four ticks
// ahead.
func TestDrops(t *testing.T) {
	areDrops(t, []drops{
		{nil, nil}, {[]int{}, nil}, {lights(1), nil}, {lights(50), nil}, {lights(0, 50), nil}, {lights(1, 1), nil}, {lights(1, 1, 1), nil},
		{lights(1, 2), []int{2}}, {lights(1, 3), []int{2}}, {lights(1, 40), []int{2}}, {lights(10, 2, 10), []int{11}}, {lights(1, 1, 1, 1, 1, 2), []int{6}},
		{lights(1, 2, 3, 2), []int{2, 7}}, {lights(1, 3, 2, 2), []int{2, 7}}, {lights(1, 2, 2, 2), []int{2}}, {lights(1, 2, 2, 2, 2, 2), []int{2, 10}},
		{lights(1, 2, 1, 2, 1, 2), []int{2}}, {lights(1, 8, 1, 8), []int{2}}, {lights(1, 8, 2, 8), []int{2, 12}}, {lights(1, 20, 2, 20, 2, 20), []int{2, 24, 46}},
		{[]int{math.MaxInt, math.MinInt, math.MinInt}, []int{2}}, {[]int{math.MinInt, math.MinInt, 0}, []int{1}}, {[]int{0, 0, 0}, nil},
	})
}

// P23.3: of any lights it is what the chapter tells.
func TestDropsOfAnyLights(t *testing.T) {
	rnd := rand.New(rand.NewSource(233))
	seen := 0
	for range 1000 {
		l := anyLights(rnd, rnd.Intn(150))
		want := wantedDrops(l)
		areDrops(t, []drops{{l, want}})
		seen += len(want)
	}
	if seen < 2000 {
		t.Errorf("%d drops are too few to tell", seen)
	}
}

// P23.4: from from on, and ahead of to, in whatever order they stand.
func TestBetween(t *testing.T) {
	some := []int{3, 7, 12}
	rows := []struct {
		drops          []int
		from, to, want int
	}{
		{nil, 0, 100, 0}, {some, 0, 100, 3}, {some, 3, 13, 3}, {some, 3, 12, 2}, {some, 4, 13, 2}, {some, 4, 12, 1}, {some, 7, 8, 1}, {some, 7, 7, 0}, {some, 6, 7, 0},
		{some, 8, 12, 0}, {some, 13, 100, 0}, {some, 0, 3, 0}, {some, -10, 4, 1}, {some, 12, 3, 0}, {some, 100, 0, 0}, {some, math.MinInt, math.MaxInt, 3}, {some, math.MaxInt, math.MinInt, 0},
		{[]int{12, 3, 7}, 3, 8, 2}, {[]int{5, 5, 5}, 5, 6, 3}, {[]int{5, 5, 5}, 4, 5, 0}, {[]int{-4, -3, 0}, -3, 0, 1},
		{[]int{math.MinInt, math.MaxInt}, math.MinInt, math.MaxInt, 1}, {[]int{math.MinInt, math.MaxInt}, math.MaxInt, math.MaxInt, 0}, {[]int{api.Top, api.Top + 1}, api.Top, api.Top + 1, 1},
	}
	for _, r := range rows {
		if got := spec.Between(r.drops, r.from, r.to); got != r.want {
			t.Errorf("Between(%v, %d, %d): %d, want %d", r.drops, r.from, r.to, got, r.want)
		}
	}
}

// P23.5: an eye that looks at the lights one by one sees just these drops, and
// them shaded that are.
func TestEyeSeesTheseDrops(t *testing.T) {
	rnd := rand.New(rand.NewSource(235))
	for range 600 {
		l := anyLights(rnd, rnd.Intn(400))
		shades, want := []bool{}, []int{}
		for i, seen := range eye.Look(l) {
			shades = append(shades, seen.Shaded)
			if seen.Drop {
				want = append(want, i)
			}
		}
		areDrops(t, []drops{{l, want}})
		if got := spec.Shades(l); !slices.Equal(got, shades) {
			t.Fatalf("Shades(%v): %v, and an eye sees %v", l, got, shades)
		}
	}
}

// P23.6: what comes later changes no drop that was.
func TestLaterLightsChangeNothing(t *testing.T) {
	rnd := rand.New(rand.NewSource(236))
	for range 40 {
		l := anyLights(rnd, 120)
		all := spec.Drops(l)
		for size := range l {
			areDrops(t, []drops{{l[:size], all[:spec.Between(all, 0, size)]}})
		}
	}
}

// R3 and R4: what is handed in stays, what is answered is new, and nothing is
// kept from call to call.
func TestNothingIsKept(t *testing.T) {
	l := lights(3, 4, 5, 6)
	s := ticks(3, 4, 5, 6)
	for range 2 {
		levels, shades, firms, at := spec.Levels(l), spec.Shades(l), spec.Firms(s), spec.Drops(l)
		if !slices.Equal(levels, slices.Repeat([]int{3000}, 18)) || !slices.Equal(shades, s) || !slices.Equal(firms, ticks(4, 4, 5, 5)) || !slices.Equal(at, []int{4, 13}) {
			t.Fatalf("%v, %v, %v, %v", levels, shades, firms, at)
		}
		levels[0], shades[0], firms[0], at[0] = 9, true, true, 9
	}
	if !slices.Equal(l, lights(3, 4, 5, 6)) || !slices.Equal(s, ticks(3, 4, 5, 6)) {
		t.Errorf("changed: %v, %v", l, s)
	}
}

// The chapter's example: a drop in the tick 2.
func TestExample(t *testing.T) {
	areDrops(t, []drops{{[]int{3000, 2000, 2000}, []int{2}}})
}
