package median_test

import (
	"math"
	"math/big"
	"math/rand"
	"slices"
	"testing"

	"pinchcock/api"
	"pinchcock/median"
)

// edges are numbers at every limit, and some between.
var edges = []int{
	math.MinInt, math.MinInt + 1, -api.Top - 1, -api.Top, 1 - api.Top, -7, -1, 0, 1, 2, 7, 300,
	api.Top - 1, api.Top, api.Top + 1, math.MaxInt - 1, math.MaxInt,
}

// lists are lists of every length at which an answer may turn, of numbers that
// are near each other, far from each other, and often the same.
func lists() [][]int {
	rnd := rand.New(rand.NewSource(8))
	all := [][]int{nil, {}}
	for _, length := range []int{1, 2, 3, 4, 5, 6, 7, 8, 9, 10, 11, api.MaxRing, api.MaxRing + 1} {
		for range 60 {
			near, far, edge := make([]int, length), make([]int, length), make([]int, length)
			for i := range length {
				near[i] = rnd.Intn(7) - 3
				far[i] = int(rnd.Uint64()) >> rnd.Intn(64)
				edge[i] = edges[rnd.Intn(len(edges))]
			}
			all = append(all, near, far, edge)
		}
	}
	return all
}

// last is the last five of l, found one by one.
func last(l []int) []int {
	found := []int{}
	for i, x := range l {
		if i+5 >= len(l) {
			found = append(found, x)
		}
	}
	return found
}

// below is how many of l are less than x.
func below(l []int, x int) int {
	count := 0
	for _, y := range l {
		if y < x {
			count++
		}
	}
	return count
}

// isMiddle tells whether x is one of l, and as many as there may be are less,
// and no more are greater: of an even count one more.
func isMiddle(l []int, x int) bool {
	less := below(l, x)
	greater := len(l) - below(l, x) - count(l, x)
	return slices.Contains(l, x) && less <= (len(l)-1)/2 && greater <= len(l)/2
}

// count is how often x is there.
func count(l []int, x int) int {
	often := 0
	for _, y := range l {
		if y == x {
			often++
		}
	}
	return often
}

// nearest is n as it counts, by numbers without an end.
func nearest(n *big.Int) *big.Int {
	top := big.NewInt(api.Top)
	if n.CmpAbs(top) <= 0 {
		return n
	}
	return top.Mul(top, big.NewInt(int64(n.Sign())))
}

// apart is how far the greatest one of l and the least one are apart, by
// numbers without an end, each as it counts.
func apart(l []int) int {
	most := nearest(big.NewInt(int64(slices.Max(l))))
	least := nearest(big.NewInt(int64(slices.Min(l))))
	return int(nearest(most.Sub(most, least)).Int64())
}

// orders hands each order of l on.
func orders(l []int, ahead []int, each func([]int)) {
	if len(l) == 0 {
		each(ahead)
		return
	}
	for i, x := range l {
		rest := slices.Delete(slices.Clone(l), i, i+1)
		orders(rest, append(slices.Clone(ahead), x), each)
	}
}

// mid checks a middle one that there is.
func mid(t *testing.T, l []int, want int) {
	t.Helper()
	if got, ok := median.Mid(l); !ok || got != want {
		t.Errorf("Mid(%v): %d, %v, want %d", l, got, ok, want)
	}
}

// spread checks a spread that there is.
func spread(t *testing.T, l []int, want int) {
	t.Helper()
	if got, ok := median.Spread(l); !ok || got != want {
		t.Errorf("Spread(%v): %d, %v, want %d", l, got, ok, want)
	}
}

// P8.1: rising, with those that are the same, however great they are.
func TestSort(t *testing.T) {
	for _, r := range []struct{ l, want []int }{
		{nil, nil}, {[]int{}, nil}, {[]int{7}, []int{7}}, {[]int{5, 1, 9}, []int{1, 5, 9}}, {[]int{1, 2, 3}, []int{1, 2, 3}},
		{[]int{3, 2, 1}, []int{1, 2, 3}}, {[]int{2, 2, 1, 2}, []int{1, 2, 2, 2}}, {[]int{0, -1, 1, -10, 10}, []int{-10, -1, 0, 1, 10}},
		{[]int{9, 8, 7, 6, 5, 4, 3, 2, 1, 0}, []int{0, 1, 2, 3, 4, 5, 6, 7, 8, 9}},
		{[]int{math.MaxInt, api.Top + 1, 0, math.MinInt, -api.Top - 1}, []int{math.MinInt, -api.Top - 1, 0, api.Top + 1, math.MaxInt}},
	} {
		if got := median.Sort(r.l); !slices.Equal(got, r.want) {
			t.Errorf("Sort(%v): %v, want %v", r.l, got, r.want)
		}
	}
}

// P8.1: of all lists: none falls, and each number is there as often as it was.
func TestSortHasTheNumbers(t *testing.T) {
	for _, l := range lists() {
		got := median.Sort(l)
		if len(got) != len(l) {
			t.Fatalf("Sort(%v): %v", l, got)
		}
		for i, x := range got {
			if i > 0 && got[i-1] > x || count(got, x) != count(l, x) {
				t.Fatalf("Sort(%v): %v", l, got)
			}
		}
	}
}

// P8.2: the middle one when they rise, of two the lesser one.
func TestMid(t *testing.T) {
	mid(t, []int{5, 1, 9}, 5)
	mid(t, []int{1, 2, 3, 4}, 2)
	mid(t, []int{4, 3, 2, 1}, 2)
	mid(t, []int{7}, 7)
	mid(t, []int{-7}, -7)
	mid(t, []int{0}, 0)
	mid(t, []int{1, 2}, 1)
	mid(t, []int{2, 1}, 1)
	mid(t, []int{-1, -2}, -2)
	mid(t, []int{10, 50, 20, 40, 30}, 30)
	mid(t, []int{3, 3, 3, 3, 3}, 3)
	mid(t, []int{3, 1, 3, 1}, 1)
	mid(t, []int{3, 1, 3, 1, 3}, 3)
	mid(t, []int{0, 9, 0, 9}, 0)
}

// P8.2: what is ahead of the last five does not count, and all five do.
func TestMidOfTheLastFive(t *testing.T) {
	mid(t, []int{1, 2, 3, 4, 5, 6}, 4)
	mid(t, []int{6, 5, 4, 3, 2, 1}, 3)
	mid(t, []int{0, 0, 0, 0, 0, 11, 12, 13, 14, 15}, 13)
	mid(t, []int{99, 99, 99, 1, 2, 3, 4, 5}, 3)
	mid(t, []int{100, 0, 0, 100, 100}, 100)
	mid(t, []int{7, 100, 0, 0, 100, 0}, 0)
}

// P8.2: numbers are as they were handed in, however great they are.
func TestMidIsOneOfThem(t *testing.T) {
	for _, n := range edges {
		mid(t, []int{n}, n)
		mid(t, []int{n, n}, n)
		mid(t, []int{math.MinInt, n, math.MaxInt}, n)
		mid(t, []int{n, math.MaxInt}, n)
		mid(t, []int{math.MaxInt, math.MinInt, n, math.MinInt, math.MaxInt}, n)
	}
	mid(t, []int{math.MinInt, math.MaxInt}, math.MinInt)
	mid(t, []int{api.Top + 2, api.Top + 1, api.Top + 3}, api.Top+2)
	mid(t, []int{-api.Top - 2, -api.Top - 1, -api.Top - 3}, -api.Top-2)
}

// P8.2: of all lists: as many are less as may be, and no more are greater.
func TestMidIsTheMiddle(t *testing.T) {
	for _, l := range lists() {
		if len(l) == 0 {
			continue
		}
		if got, ok := median.Mid(l); !ok || !isMiddle(last(l), got) {
			t.Fatalf("Mid(%v): %d, %v", l, got, ok)
		}
	}
}

// P8.2, P8.3: there is nothing of nothing.
func TestNothing(t *testing.T) {
	room := []int{1, 2, 3}
	for _, l := range [][]int{nil, {}, room[:0], room[3:]} {
		if got, ok := median.Mid(l); ok || got != 0 {
			t.Errorf("Mid of nothing: %d, %v", got, ok)
		}
		if got, ok := median.Spread(l); ok || got != 0 {
			t.Errorf("Spread of nothing: %d, %v", got, ok)
		}
	}
}

// P8.3: the greatest one less the least one, wherever they stand.
func TestSpread(t *testing.T) {
	spread(t, []int{5, 1, 9}, 8)
	spread(t, []int{1, 2, 3, 4}, 3)
	spread(t, []int{4, 3, 2, 1}, 3)
	spread(t, []int{7}, 0)
	spread(t, []int{-7}, 0)
	spread(t, []int{0}, 0)
	spread(t, []int{3, 3, 3, 3, 3}, 0)
	spread(t, []int{-3, 3}, 6)
	spread(t, []int{-9, -3}, 6)
	spread(t, []int{10, 50, 20, 40, 30}, 40)
	spread(t, []int{100, 10, 20, 30, 40, 50}, 40)
	spread(t, []int{0, 10, 20, 30, 40, 50}, 40)
	spread(t, []int{-100, 100, 1, 2, 3, 4, 6}, 5)
}

// P8.3: as sat.Sub subtracts: each one counts as clamped, and so does the rest.
// It is told with true all the same.
func TestSpreadStopsAtALimit(t *testing.T) {
	spread(t, []int{0, api.Top}, api.Top)
	spread(t, []int{-1, api.Top}, api.Top)
	spread(t, []int{1, api.Top}, api.Top-1)
	spread(t, []int{1, api.Top + 1}, api.Top-1)
	spread(t, []int{1, math.MaxInt}, api.Top-1)
	spread(t, []int{-1, math.MinInt}, api.Top-1)
	spread(t, []int{-api.Top, api.Top}, api.Top)
	spread(t, []int{math.MinInt, math.MaxInt}, api.Top)
	spread(t, []int{math.MaxInt, api.Top}, 0)
	spread(t, []int{api.Top + 9, api.Top + 1}, 0)
	spread(t, []int{math.MinInt, -api.Top - 1}, 0)
	spread(t, []int{math.MaxInt}, 0)
	spread(t, []int{api.Top + 1, api.Top - 1}, 1)
}

// P8.3: of all lists, by numbers without an end.
func TestSpreadIsTheSpread(t *testing.T) {
	for _, l := range lists() {
		if len(l) > 0 {
			spread(t, l, apart(last(l)))
		}
	}
}

// P8.4: two of five are any, wherever they stand: the middle one lies among the
// other three.
func TestTwoOfFiveAreWild(t *testing.T) {
	rnd := rand.New(rand.NewSource(84))
	wild := append([]int{-1, 0, 1, 99, 100, 101, 104, 105, 106}, edges...)
	for first := range 5 {
		for second := range first {
			for _, a := range wild {
				for _, b := range wild {
					l := []int{100 + rnd.Intn(6), 100 + rnd.Intn(6), 100 + rnd.Intn(6), 100 + rnd.Intn(6), 100 + rnd.Intn(6)}
					l[first], l[second] = a, b
					others := slices.Delete(slices.Delete(slices.Clone(l), first, first+1), second, second+1)
					got, ok := median.Mid(l)
					if !ok || got < slices.Min(others) || got > slices.Max(others) {
						t.Fatalf("Mid(%v): %d, %v, others %v", l, got, ok, others)
					}
				}
			}
		}
	}
}

// P8.5: each order of up to five numbers, and of five behind others.
func TestOrdersDoNotMatter(t *testing.T) {
	for _, l := range [][]int{
		{1, 2}, {7, 7}, {1, 5, 9}, {1, 1, 9}, {1, 2, 3, 4}, {1, 1, 4, 4}, {10, 20, 30, 40, 50}, {1, 1, 2, 2, 2}, {-5, -5, 0, 5, 5},
		{math.MinInt, -api.Top, 0, api.Top, math.MaxInt}, {math.MinInt, math.MinInt, 1, 2, math.MaxInt}, {api.Top, api.Top + 1, api.Top + 2},
	} {
		middle, _ := median.Mid(l)
		apart, _ := median.Spread(l)
		sorted := median.Sort(l)
		orders(l, nil, func(other []int) {
			mid(t, other, middle)
			spread(t, other, apart)
			if got := median.Sort(other); !slices.Equal(got, sorted) {
				t.Errorf("Sort(%v): %v, want %v", other, got, sorted)
			}
			if len(other) == 5 {
				behind := append([]int{math.MaxInt, math.MinInt, 3}, other...)
				mid(t, behind, middle)
				spread(t, behind, apart)
			}
		})
	}
}

// R3: neither a list nor the room behind its end is changed.
func TestNothingHandedInIsChanged(t *testing.T) {
	for _, l := range lists() {
		whole := append(slices.Clone(l), 4, 3, 2, 1)
		kept, short := slices.Clone(whole), whole[:len(l)]
		median.Sort(short)
		median.Mid(short)
		median.Spread(short)
		if !slices.Equal(whole, kept) {
			t.Fatalf("changed: %v, was %v", whole, kept)
		}
	}
}

// R3: an answer shares no memory with what was handed in, nor with another
// answer.
func TestAnswersAreNewMemory(t *testing.T) {
	for _, l := range lists() {
		whole := append(slices.Clone(l), 4, 3, 2, 1)
		kept, short := slices.Clone(whole), whole[:len(l)]
		one, two := median.Sort(short), median.Sort(short)
		want := slices.Clone(two)
		one = one[:cap(one)]
		for i := range one {
			one[i] = -99
		}
		if !slices.Equal(whole, kept) || !slices.Equal(two, want) {
			t.Fatalf("changed by an answer: %v, %v", whole, two)
		}
	}
}

// R4: nothing is kept from call to call.
func TestNothingIsKept(t *testing.T) {
	for _, l := range lists() {
		middle, some := median.Mid(l)
		apart, _ := median.Spread(l)
		median.Mid([]int{math.MaxInt, math.MinInt, 3})
		median.Spread([]int{math.MaxInt, math.MinInt, 3})
		median.Sort([]int{3, 2, 1})
		if got, ok := median.Mid(slices.Clone(l)); got != middle || ok != some {
			t.Fatalf("Mid(%v) asked again: %d, %v", l, got, ok)
		}
		if got, ok := median.Spread(slices.Clone(l)); got != apart || ok != some {
			t.Fatalf("Spread(%v) asked again: %d, %v", l, got, ok)
		}
	}
}

// The chapter's examples.
func TestExamples(t *testing.T) {
	mid(t, []int{5, 1, 9}, 5)
	mid(t, []int{1, 2, 3, 4}, 2)
}
