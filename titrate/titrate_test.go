package titrate_test

import (
	"math"
	"slices"
	"testing"

	"pinchcock/api"
	"pinchcock/titrate"
)

// of is a programme of 100 millilitres.
func of(rate, set int) api.Programme {
	return api.Programme{Rate: rate, Vtbi: 100, Set: set}
}

// fastest is the greatest rate that may be, by the set.
var fastest = map[int]int{10: 1000, 15: 1000, 20: 1000, 60: 500}

// check is what is wrong with a programme.
func check(p api.Programme) api.Errno {
	high, known := fastest[p.Set]
	switch {
	case !known:
		return api.ErrSet
	case p.Rate < 5 || p.Rate > high:
		return api.ErrRate
	case p.Vtbi < 1 || p.Vtbi > 5000:
		return api.ErrVolume
	}
	return api.OK
}

// wrong is what is wrong with a programme, or with it at another rate.
func wrong(p api.Programme, rate int) api.Errno {
	if e := check(p); e != api.OK {
		return e
	}
	p.Rate = rate
	return check(p)
}

// change runs Change, and holds it against what is wanted.
func change(t *testing.T, p api.Programme, rate int) {
	t.Helper()
	want, e := p, wrong(p, rate)
	want.Rate = rate
	if e == api.OK && (rate > 2*p.Rate || 2*rate < p.Rate) {
		e = api.ErrStep
	}
	if e != api.OK {
		want = api.Programme{}
	}
	if got, w := titrate.Change(p, rate); got != want || w != e {
		t.Fatalf("Change(%+v, %d): %+v, %d, want %+v, %d", p, rate, got, w, want, e)
	}
}

// wantedTowards is what Towards is to tell.
func wantedTowards(p api.Programme, rate int) ([]int, api.Errno) {
	if e := wrong(p, rate); e != api.OK {
		return nil, e
	}
	l := []int{}
	for at := p.Rate; at != rate; l = append(l, at) {
		half := at / 2
		if at%2 == 1 {
			half++
		}
		switch {
		case rate > 2*at:
			at = 2 * at
		case rate < half:
			at = half
		default:
			at = rate
		}
	}
	return l, api.OK
}

// towards runs Towards, and holds it against what is wanted.
func towards(t *testing.T, p api.Programme, rate int) []int {
	t.Helper()
	want, e := wantedTowards(p, rate)
	got, w := titrate.Towards(p, rate)
	if !slices.Equal(got, want) || w != e {
		t.Fatalf("Towards(%+v, %d): %v, %d, want %v, %d", p, rate, got, w, want, e)
	}
	return got
}

// P38.1: that rate, no more than twice as fast or as slow.
func TestChange(t *testing.T) {
	rows := []struct {
		rate, next int
		e          api.Errno
	}{
		{60, 60, api.OK}, {60, 120, api.OK}, {60, 121, api.ErrStep}, {60, 30, api.OK}, {60, 29, api.ErrStep}, {61, 31, api.OK}, {61, 30, api.ErrStep}, {61, 122, api.OK}, {61, 123, api.ErrStep}, {60, 61, api.OK}, {60, 59, api.OK},
		{60, 1000, api.ErrStep}, {60, 1001, api.ErrRate}, {60, 5, api.ErrStep}, {60, 4, api.ErrRate}, {60, 0, api.ErrRate}, {60, -60, api.ErrRate}, {5, 5, api.OK}, {5, 10, api.OK}, {5, 11, api.ErrStep}, {5, 4, api.ErrRate}, {9, 5, api.OK}, {10, 5, api.OK}, {11, 5, api.ErrStep}, {1000, 1000, api.OK}, {1000, 500, api.OK}, {1000, 499, api.ErrStep}, {500, 1000, api.OK}, {501, 1002, api.ErrRate},
	}
	for _, r := range rows {
		got, e := titrate.Change(of(r.rate, 20), r.next)
		if e != r.e || e == api.OK && got != of(r.next, 20) || e != api.OK && got != (api.Programme{}) {
			t.Errorf("Change of %d to %d: %+v, %d, want %d", r.rate, r.next, got, e, r.e)
		}
	}
}

// P38.1: of each rate of a set to each other one.
func TestChangeOfEach(t *testing.T) {
	for set := range fastest {
		for rate := 3; rate <= 1003; rate += 1 + rate/60 {
			for next := 3; next <= 1003; next++ {
				change(t, of(rate, set), next)
			}
		}
	}
}

// others are programmes and rates of which something is wrong.
var others = []struct {
	p    api.Programme
	rate int
	e    api.Errno
}{
	{api.Programme{}, 60, api.ErrSet}, {of(60, 7), 60, api.ErrSet}, {of(0, 7), 0, api.ErrSet}, {of(0, 20), 60, api.ErrRate}, {of(1001, 20), 600, api.ErrRate}, {of(501, 60), 400, api.ErrRate}, {of(500, 60), 501, api.ErrRate}, {of(300, 60), 600, api.ErrRate}, {of(300, 60), 1000, api.ErrRate},
	{api.Programme{Rate: 60, Set: 20}, 60, api.ErrVolume}, {api.Programme{Rate: 60, Vtbi: 5001, Set: 20}, 60, api.ErrVolume}, {api.Programme{Rate: 60, Set: 20}, 0, api.ErrVolume}, {api.Programme{Rate: 60, Vtbi: -1, Set: 20}, 1000, api.ErrVolume}, {api.Programme{Rate: 4, Set: 20}, 5, api.ErrRate},
	{of(60, 20), math.MinInt, api.ErrRate}, {of(60, 20), math.MaxInt, api.ErrRate}, {of(60, 20), -1, api.ErrRate}, {of(60, 20), 1<<62 + 60, api.ErrRate}, {of(math.MaxInt, 20), 60, api.ErrRate}, {of(math.MinInt, 20), 60, api.ErrRate}, {of(1<<62, 20), 1 << 62, api.ErrRate}, {of(60, math.MaxInt), math.MaxInt, api.ErrSet},
}

// P38.1 and P38.2: what is wrong with the programme first, then with it at that
// rate; and nothing beside it.
func TestWhatIsWrong(t *testing.T) {
	for _, o := range others {
		if got, e := titrate.Change(o.p, o.rate); got != (api.Programme{}) || e != o.e {
			t.Errorf("Change(%+v, %d): %+v, %d, want %d", o.p, o.rate, got, e, o.e)
		}
		if got, e := titrate.Towards(o.p, o.rate); len(got) != 0 || e != o.e {
			t.Errorf("Towards(%+v, %d): %v, %d, want %d", o.p, o.rate, got, e, o.e)
		}
	}
}

// P38.2: twice the one ahead at the most, half of it, rounded up, at least.
func TestTowards(t *testing.T) {
	rows := []struct {
		rate, next int
		want       []int
	}{
		{60, 60, nil}, {60, 61, []int{61}}, {60, 120, []int{120}}, {60, 121, []int{120, 121}}, {60, 59, []int{59}}, {60, 30, []int{30}}, {60, 29, []int{30, 29}}, {61, 31, []int{31}}, {61, 30, []int{31, 30}}, {61, 15, []int{31, 16, 15}},
		{5, 30, []int{10, 20, 30}}, {5, 5, nil}, {1000, 1000, nil}, {5, 1000, []int{10, 20, 40, 80, 160, 320, 640, 1000}}, {1000, 5, []int{500, 250, 125, 63, 32, 16, 8, 5}}, {1000, 8, []int{500, 250, 125, 63, 32, 16, 8}}, {5, 640, []int{10, 20, 40, 80, 160, 320, 640}},
	}
	for _, r := range rows {
		if got := towards(t, of(r.rate, 20), r.next); !slices.Equal(got, r.want) {
			t.Errorf("from %d to %d: %v, want %v", r.rate, r.next, got, r.want)
		}
	}
}

// P38.2: of each rate of a set to each other one.
func TestTowardsOfEach(t *testing.T) {
	for set := range fastest {
		for rate := 3; rate <= 1003; rate += 1 + rate/60 {
			for next := 3; next <= 1003; next++ {
				towards(t, of(rate, set), next)
			}
		}
	}
}

// P38.3: each can be changed to from the one ahead, there are at most 8, and the
// last one is the wanted one.
func TestEachCanBeChangedTo(t *testing.T) {
	for set, high := range fastest {
		for rate := 5; rate <= high; rate++ {
			for next := 5; next <= high; next += 1 + rate%7 + next/40 {
				p := of(rate, set)
				l := towards(t, p, next)
				for _, r := range l {
					q, e := titrate.Change(p, r)
					if e != api.OK || q != of(r, set) {
						t.Fatalf("from %d to %d: %d of %d: %d", rate, next, r, p.Rate, e)
					}
					p = q
				}
				if p.Rate != next || len(l) > 8 {
					t.Fatalf("from %d to %d: %v", rate, next, l)
				}
			}
		}
	}
}

// R3 and R4: nothing is kept from call to call, and each list is new memory.
func TestNothingIsKept(t *testing.T) {
	for range 3 {
		l := towards(t, of(5, 20), 30)
		l[0], l[1], l[2] = 7, 7, 7
		change(t, of(5, 20), 10)
		change(t, of(5, 20), 11)
	}
}

// The chapter's example: from 5 to 30.
func TestExample(t *testing.T) {
	if got := towards(t, of(5, 20), 30); !slices.Equal(got, []int{10, 20, 30}) {
		t.Errorf("from 5 to 30: %v", got)
	}
}
