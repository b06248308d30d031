package sat_test

import (
	"fmt"
	"math"
	"math/big"
	"math/rand"
	"slices"
	"testing"

	"pinchcock/api"
	"pinchcock/sat"
)

// edges are the numbers at which an answer may turn, and some between them.
var edges = []int{
	math.MinInt, math.MinInt + 1, -1 << 62, -2*api.Top - 1, -2 * api.Top,
	-api.Top - 2, -api.Top - 1, -api.Top, -api.Top + 1, -api.Top + 2, -api.Top / 2,
	-1 << 32, -94906266, -94906265, -1 << 26, -1000, -7, -4, -3, -2, -1,
	0, 1, 2, 3, 4, 7, 1000, 1 << 26, 94906265, 94906266, 1 << 32,
	api.Top/2 - 1, api.Top / 2, api.Top/2 + 1, api.Top - 2, api.Top - 1, api.Top,
	api.Top + 1, api.Top + 2, 2 * api.Top, 2*api.Top + 1, 1 << 62, math.MaxInt - 1, math.MaxInt,
}

// sample is the edges and numbers of every length, the same ones in every run.
func sample() []int {
	rnd := rand.New(rand.NewSource(1))
	l := slices.Clone(edges)
	for width := 1; width < 64; width++ {
		n := int(rnd.Uint64() >> (64 - width))
		l = append(l, n, -n)
	}
	return l
}

// row is one call and what it is to answer.
type row struct {
	a, b, want int
	changed    bool
}

func answers(t *testing.T, what string, got int, changed bool, want int, wantChanged bool) {
	t.Helper()
	if got != want || changed != wantChanged {
		t.Errorf("%s: %d %v, want %d %v", what, got, changed, want, wantChanged)
	}
}

func rows(t *testing.T, name string, f func(a, b int) (int, bool), l []row) {
	t.Helper()
	for _, r := range l {
		got, changed := f(r.a, r.b)
		answers(t, fmt.Sprintf("%s(%d, %d)", name, r.a, r.b), got, changed, r.want, r.changed)
	}
}

// nearest is Clamp of a number without an end.
func nearest(n *big.Int) (int, bool) {
	top := big.NewInt(api.Top)
	low := big.NewInt(-api.Top)
	if n.Cmp(top) > 0 {
		return api.Top, true
	}
	if n.Cmp(low) < 0 {
		return -api.Top, true
	}
	return int(n.Int64()), false
}

// exact reckons without an end what f tells with limits.
func exact(f func(z, x, y *big.Int) *big.Int, a, b int) (int, bool) {
	x, overX := nearest(big.NewInt(int64(a)))
	y, overY := nearest(big.NewInt(int64(b)))
	z, overZ := nearest(f(new(big.Int), big.NewInt(int64(x)), big.NewInt(int64(y))))
	return z, overX || overY || overZ
}

func agrees(t *testing.T, name string, f func(a, b int) (int, bool), whole func(z, x, y *big.Int) *big.Int) {
	t.Helper()
	l := sample()
	for _, a := range l {
		for _, b := range l {
			got, changed := f(a, b)
			want, wantChanged := exact(whole, a, b)
			answers(t, fmt.Sprintf("%s(%d, %d)", name, a, b), got, changed, want, wantChanged)
		}
	}
}

// P1.1: the nearest number from -Top to Top, and whether it is another one.
func TestClamp(t *testing.T) {
	if api.Top != 1<<53 {
		t.Fatal("Top is not 2^53")
	}
	for _, r := range []row{
		{a: 0, want: 0},
		{a: 1, want: 1},
		{a: -1, want: -1},
		{a: 1234567, want: 1234567},
		{a: 1<<53 - 1, want: 1<<53 - 1},
		{a: 1 << 53, want: 1 << 53},
		{a: 1<<53 + 1, want: 1 << 53, changed: true},
		{a: math.MaxInt, want: 1 << 53, changed: true},
		{a: -1<<53 + 1, want: -1<<53 + 1},
		{a: -1 << 53, want: -1 << 53},
		{a: -1<<53 - 1, want: -1 << 53, changed: true},
		{a: math.MinInt, want: -1 << 53, changed: true},
	} {
		got, changed := sat.Clamp(r.a)
		answers(t, fmt.Sprintf("Clamp(%d)", r.a), got, changed, r.want, r.changed)
	}
	for _, n := range sample() {
		got, changed := sat.Clamp(n)
		want, wantChanged := nearest(big.NewInt(int64(n)))
		answers(t, fmt.Sprintf("Clamp(%d)", n), got, changed, want, wantChanged)
	}
}

// P1.2: the sum of both, clamped, and whether any of the three was changed.
func TestAdd(t *testing.T) {
	rows(t, "Add", sat.Add, []row{
		{2, 3, 5, false},
		{-2, 3, 1, false},
		{0, 0, 0, false},
		{api.Top, 0, api.Top, false},
		{api.Top, 1, api.Top, true},
		{api.Top, -1, api.Top - 1, false},
		{api.Top - 1, 1, api.Top, false},
		{api.Top, api.Top, api.Top, true},
		{api.Top, -api.Top, 0, false},
		{-api.Top, -1, -api.Top, true},
		{-api.Top, 1, -api.Top + 1, false},
		{-api.Top, -api.Top, -api.Top, true},
		{api.Top + 1, -1, api.Top - 1, true},
		{-1, api.Top + 1, api.Top - 1, true},
		{-api.Top - 1, 1, -api.Top + 1, true},
		{1, -api.Top - 1, -api.Top + 1, true},
		{math.MaxInt, math.MaxInt, api.Top, true},
		{math.MinInt, math.MinInt, -api.Top, true},
		{math.MaxInt, math.MinInt, 0, true},
		{math.MinInt, math.MaxInt, 0, true},
	})
	agrees(t, "Add", sat.Add, (*big.Int).Add)
}

// P1.2: the difference likewise.
func TestSub(t *testing.T) {
	rows(t, "Sub", sat.Sub, []row{
		{2, 3, -1, false},
		{3, 2, 1, false},
		{0, 0, 0, false},
		{-2, -3, 1, false},
		{0, api.Top, -api.Top, false},
		{api.Top, api.Top, 0, false},
		{-api.Top, 1, -api.Top, true},
		{-api.Top, -1, -api.Top + 1, false},
		{api.Top, -1, api.Top, true},
		{-1, api.Top, -api.Top, true},
		{-1, -api.Top, api.Top - 1, false},
		{api.Top + 1, 1, api.Top - 1, true},
		{1, api.Top + 1, -api.Top + 1, true},
		{0, math.MinInt, api.Top, true},
		{-1, math.MinInt, api.Top - 1, true},
		{math.MinInt, math.MinInt, 0, true},
		{math.MaxInt, math.MinInt, api.Top, true},
		{math.MinInt, math.MaxInt, -api.Top, true},
	})
	agrees(t, "Sub", sat.Sub, (*big.Int).Sub)
}

// P1.3: the product likewise.
func TestMul(t *testing.T) {
	rows(t, "Mul", sat.Mul, []row{
		{3, -4, -12, false},
		{-3, -4, 12, false},
		{3, 4, 12, false},
		{0, -5, 0, false},
		{api.Top, 0, 0, false},
		{api.Top, 1, api.Top, false},
		{api.Top, -1, -api.Top, false},
		{-1, -api.Top, api.Top, false},
		{api.Top, 2, api.Top, true},
		{api.Top, -2, -api.Top, true},
		{-2, -api.Top, api.Top, true},
		{api.Top / 2, 2, api.Top, false},
		{api.Top/2 + 1, 2, api.Top, true},
		{api.Top/2 + 1, -2, -api.Top, true},
		{1 << 27, 1 << 26, api.Top, false},
		{1 << 32, 1 << 32, api.Top, true},
		{-1 << 32, 1 << 32, -api.Top, true},
		{api.Top, api.Top, api.Top, true},
		{api.Top, -api.Top, -api.Top, true},
		{api.Top + 1, 0, 0, true},
		{0, math.MinInt, 0, true},
		{math.MinInt, -1, api.Top, true},
		{math.MaxInt, 1, api.Top, true},
		{math.MinInt, math.MinInt, api.Top, true},
	})
	agrees(t, "Mul", sat.Mul, (*big.Int).Mul)
}

// P1.4: the nearest number from lo to hi, and whether it is another one; lo
// and true, if hi is below lo.
func TestWithin(t *testing.T) {
	for _, r := range []struct {
		n, lo, hi, want int
		changed         bool
	}{
		{4, 2, 9, 4, false},
		{2, 2, 9, 2, false},
		{9, 2, 9, 9, false},
		{1, 2, 9, 2, true},
		{10, 2, 9, 9, true},
		{-5, -9, -2, -5, false},
		{5, 5, 5, 5, false},
		{4, 5, 5, 5, true},
		{6, 5, 5, 5, true},
		{4, 9, 2, 9, true},
		{9, 9, 2, 9, true},
		{2, 9, 2, 9, true},
		{100, 9, 2, 9, true},
		{-100, 9, 2, 9, true},
		{6, 6, 5, 6, true},
		{api.Top + 5, 0, api.Top + 9, api.Top + 5, false},
		{math.MaxInt, api.Top + 1, api.Top + 2, api.Top + 2, true},
		{0, -api.Top - 9, -api.Top - 2, -api.Top - 2, true},
		{math.MinInt, math.MinInt, math.MaxInt, math.MinInt, false},
		{math.MaxInt, math.MinInt, math.MaxInt, math.MaxInt, false},
		{0, math.MaxInt, math.MinInt, math.MaxInt, true},
		{math.MaxInt, math.MaxInt, math.MinInt, math.MaxInt, true},
	} {
		got, changed := sat.Within(r.n, r.lo, r.hi)
		answers(t, fmt.Sprintf("Within(%d, %d, %d)", r.n, r.lo, r.hi), got, changed, r.want, r.changed)
	}
	for _, lo := range edges {
		for _, hi := range edges {
			for _, n := range edges {
				within(t, n, lo, hi)
			}
		}
	}
}

// within holds one answer of Within against the promise, case by case.
func within(t *testing.T, n, lo, hi int) {
	t.Helper()
	want, wantChanged := n, false
	switch {
	case hi < lo || n < lo:
		want, wantChanged = lo, true
	case n > hi:
		want, wantChanged = hi, true
	}
	got, changed := sat.Within(n, lo, hi)
	answers(t, fmt.Sprintf("Within(%d, %d, %d)", n, lo, hi), got, changed, want, wantChanged)
}

// P1.5: one behind the other is added, the first one first, and whether any of
// these sums was changed.
func TestSum(t *testing.T) {
	for _, r := range []struct {
		l       []int
		want    int
		changed bool
	}{
		{nil, 0, false},
		{[]int{}, 0, false},
		{[]int{7}, 7, false},
		{[]int{1, 2, 3, 4}, 10, false},
		{[]int{1, -2, 3, -4}, -2, false},
		{[]int{api.Top}, api.Top, false},
		{[]int{api.Top + 1}, api.Top, true},
		{[]int{math.MinInt}, -api.Top, true},
		{[]int{math.MaxInt, math.MinInt}, 0, true},
		{[]int{api.Top, 1}, api.Top, true},
		{[]int{api.Top, 1, -5}, api.Top - 5, true},
		{[]int{-5, api.Top, 1}, api.Top - 4, false},
		{[]int{-5, 1, api.Top}, api.Top - 4, false},
		{[]int{-api.Top, -1, 5}, -api.Top + 5, true},
		{[]int{5, -1, -api.Top}, -api.Top + 4, false},
		{[]int{api.Top, -api.Top, api.Top, 1}, api.Top, true},
		{[]int{0, api.Top + 1, 0, -1}, api.Top - 1, true},
		{[]int{1, 2, -api.Top - 1, 3}, -api.Top + 6, true},
	} {
		got, changed := sat.Sum(r.l...)
		answers(t, fmt.Sprintf("Sum(%v)", r.l), got, changed, r.want, r.changed)
	}
}

// P1.5: each sum is that of Add.
func TestSumIsAddedUp(t *testing.T) {
	rnd := rand.New(rand.NewSource(2))
	for range 2000 {
		l := make([]int, rnd.Intn(8))
		for i := range l {
			l[i] = edges[rnd.Intn(len(edges))]
		}
		want, wantChanged := 0, false
		for _, n := range l {
			sum, over := exact((*big.Int).Add, want, n)
			want, wantChanged = sum, wantChanged || over
		}
		got, changed := sat.Sum(l...)
		answers(t, fmt.Sprintf("Sum(%v)", l), got, changed, want, wantChanged)
	}
}

// R3: what is handed in is not changed, nor what lies behind a list's end.
func TestSumLeavesItsList(t *testing.T) {
	room := []int{1, math.MaxInt, -3, math.MinInt, 5, 6}
	was := slices.Clone(room)
	sat.Sum(room[:4]...)
	if !slices.Equal(room, was) {
		t.Errorf("the list is %v, and was %v", room, was)
	}
}

// R4: what is told hangs on the arguments alone.
func TestNothingIsKept(t *testing.T) {
	for _, l := range [][]int{{1, 2}, {api.Top, 1}, nil, {1, 2}} {
		first, changed := sat.Sum(l...)
		sat.Sum(api.Top, 5, math.MinInt)
		sat.Mul(api.Top, api.Top)
		second, again := sat.Sum(l...)
		answers(t, fmt.Sprintf("Sum(%v) again", l), second, again, first, changed)
	}
}

// P1.6: where nothing was changed, sums go in any order.
func TestSumsGoInAnyOrder(t *testing.T) {
	for _, l := range [][]int{
		{1, 2, 3}, {-5, 3, 1000}, {api.Top - 10, 3, 7}, {-api.Top + 10, -3, -7}, {api.Top, -1, -2}, {-api.Top, api.Top, 0},
	} {
		want, changed := sat.Sum(l...)
		if changed {
			t.Errorf("Sum(%v) was changed", l)
		}
		for _, p := range [][3]int{{0, 2, 1}, {1, 0, 2}, {1, 2, 0}, {2, 0, 1}, {2, 1, 0}} {
			got, changed := sat.Sum(l[p[0]], l[p[1]], l[p[2]])
			answers(t, fmt.Sprintf("Sum(%v) in the order %v", l, p), got, changed, want, false)
		}
	}
	for _, a := range edges {
		for _, b := range edges {
			one, changed := sat.Add(a, b)
			other, again := sat.Add(b, a)
			answers(t, fmt.Sprintf("Add(%d, %d)", b, a), other, again, one, changed)
		}
	}
}

// P1.6: where nothing was changed, what was added is taken away again.
func TestWhatWasAddedIsTakenAway(t *testing.T) {
	for _, a := range edges {
		for _, b := range edges {
			if sum, changed := sat.Add(a, b); !changed {
				back, over := sat.Sub(sum, b)
				answers(t, fmt.Sprintf("Sub(%d, %d)", sum, b), back, over, a, false)
			}
			if rest, changed := sat.Sub(a, b); !changed {
				back, over := sat.Add(rest, b)
				answers(t, fmt.Sprintf("Add(%d, %d)", rest, b), back, over, a, false)
			}
		}
	}
}

// P1.6: where something was changed, the answer stands at a limit, or an
// argument was beyond one; and nothing is changed silently.
func TestWhatIsChangedIsAtALimit(t *testing.T) {
	for name, f := range map[string]func(a, b int) (int, bool){"Add": sat.Add, "Sub": sat.Sub, "Mul": sat.Mul} {
		for _, a := range edges {
			for _, b := range edges {
				got, changed := f(a, b)
				beyond := a > api.Top || a < -api.Top || b > api.Top || b < -api.Top
				limit := got == api.Top || got == -api.Top
				if changed && !beyond && !limit {
					t.Errorf("%s(%d, %d): %d is changed, and at no limit", name, a, b, got)
				}
				if beyond && !changed {
					t.Errorf("%s(%d, %d): not told that an argument is beyond", name, a, b)
				}
				if got > api.Top || got < -api.Top {
					t.Errorf("%s(%d, %d): %d is beyond the limits", name, a, b, got)
				}
			}
		}
	}
}

// P1.7: a greater number makes no sum less.
func TestGreaterNumbersMakeNoSumLess(t *testing.T) {
	l := sample()
	slices.Sort(l)
	for _, b := range l {
		for i := 1; i < len(l); i++ {
			less, _ := sat.Add(l[i-1], b)
			more, _ := sat.Add(l[i], b)
			if more < less {
				t.Errorf("Add(%d, %d) is %d, and Add(%d, %d) %d", l[i-1], b, less, l[i], b, more)
			}
			less, _ = sat.Sum(3, l[i-1], b, -4)
			more, _ = sat.Sum(3, l[i], b, -4)
			if more < less {
				t.Errorf("Sum(3, %d, %d, -4) is %d, with %d it is %d", l[i-1], b, less, l[i], more)
			}
		}
	}
}

// The chapter's examples: Top and 1 are Top, and it is told; 3 times -4 is -12.
func TestExamples(t *testing.T) {
	got, changed := sat.Add(api.Top, 1)
	answers(t, "Add(Top, 1)", got, changed, api.Top, true)
	got, changed = sat.Mul(3, -4)
	answers(t, "Mul(3, -4)", got, changed, -12, false)
}
