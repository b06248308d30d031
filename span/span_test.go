package span_test

import (
	"math"
	"math/big"
	"math/rand"
	"slices"
	"testing"

	"pinchcock/api"
	"pinchcock/span"
)

// edges are times and widths at which an answer may turn.
var edges = []int{
	math.MinInt, math.MinInt + 1, -api.Top - 2, -api.Top - 1, -api.Top, -api.Top + 1, -api.Top + 2,
	-7, -2, -1, 0, 1, 2, 3, 5, 6, 7, 9,
	api.Top - 2, api.Top - 1, api.Top, api.Top + 1, api.Top + 2, math.MaxInt - 1, math.MaxInt,
}

// lists are lists of times, and such as are none.
func lists() [][]int {
	rnd := rand.New(rand.NewSource(5))
	all := [][]int{nil, {}, {0}, {3, 7, 9}, {9, 7, 3}, {5, 5, 5}, edges}
	for length := 1; length < 12; length++ {
		l := make([]int, length)
		for i := range l {
			l[i] = edges[rnd.Intn(len(edges))] + rnd.Intn(3) - 1
		}
		all = append(all, l)
	}
	return all
}

// limited is the nearest number from -Top to Top, without an end to reckon
// with.
func limited(n *big.Int) *big.Int {
	top := big.NewInt(api.Top)
	if n.CmpAbs(top) <= 0 {
		return n
	}
	if n.Sign() < 0 {
		return new(big.Int).Neg(top)
	}
	return top
}

// counted is a time or a width as it counts.
func counted(n int) *big.Int {
	return limited(big.NewInt(int64(n)))
}

// inside are those of l that are within, as it is reckoned without an end.
func inside(l []int, now, width int) []int {
	begin := limited(new(big.Int).Sub(counted(now), counted(width)))
	in := []int{}
	for _, x := range l {
		if counted(x).Cmp(counted(now)) <= 0 && counted(x).Cmp(begin) > 0 {
			in = append(in, x)
		}
	}
	return in
}

// lastOf is the last n of l; n counts as from 0 to MaxRing.
func lastOf(l []int, n int) []int {
	n = min(max(n, 0), 512)
	return l[max(len(l)-n, 0):]
}

// spoil overwrites a list and the room behind its end.
func spoil(l []int) {
	l = l[:cap(l)]
	for i := range l {
		l[i] = -99
	}
}

// put is a row of Put's arguments and what is wanted.
type put struct {
	l              []int
	t, width, most int
	want           []int
}

// puts runs the rows.
func puts(t *testing.T, rows []put) {
	t.Helper()
	for _, r := range rows {
		if got := span.Put(r.l, r.t, r.width, r.most); !slices.Equal(got, r.want) {
			t.Errorf("Put(%v, %d, %d, %d): %v, want %v", r.l, r.t, r.width, r.most, got, r.want)
		}
	}
}

// P5.1: those within are kept in order, and t stands behind them.
func TestPut(t *testing.T) {
	puts(t, []put{
		{nil, 4, 6, 3, []int{4}}, {[]int{}, 4, 6, 3, []int{4}},
		{[]int{3}, 7, 6, 3, []int{3, 7}}, {[]int{3, 7}, 9, 6, 3, []int{7, 9}}, {[]int{3, 7}, 9, 7, 3, []int{3, 7, 9}},
		{[]int{3, 7}, 8, 6, 9, []int{3, 7, 8}}, {[]int{3, 7, 9}, 100, 6, 9, []int{100}},
		{[]int{7, 3, 6, 5, 4}, 7, 3, 9, []int{7, 6, 5, 7}}, {[]int{5, 5, 5}, 5, 1, 9, []int{5, 5, 5, 5}},
		{[]int{-3, -1, 0, 2}, 1, 3, 9, []int{-1, 0, 1}},
	})
}

// P5.1: t itself is within up to t, and what is above t is not; what is as old
// as the span is wide is out.
func TestPutEdges(t *testing.T) {
	puts(t, []put{
		{[]int{9, 10, 11}, 10, 5, 9, []int{9, 10, 10}}, {[]int{4, 5, 6}, 10, 5, 9, []int{6, 10}},
		{[]int{10, 10}, 10, 1, 9, []int{10, 10, 10}}, {[]int{9, 10}, 10, 1, 9, []int{10, 10}},
		{[]int{9, 10, 11}, 10, 0, 9, []int{10}}, {[]int{9, 10, 11}, 10, -1, 9, []int{10}},
		{[]int{9, 10, 11}, 10, math.MinInt, 9, []int{10}},
		{[]int{-api.Top + 10, -api.Top + 11, 10, 11}, 10, math.MaxInt, 9, []int{-api.Top + 11, 10, 10}},
	})
}

// P5.1: of all of these the last most ones; most counts as from 0 to MaxRing.
func TestPutMost(t *testing.T) {
	long := make([]int, 600)
	for i := range long {
		long[i] = i
	}
	puts(t, []put{
		{[]int{1, 2, 3}, 4, 9, 4, []int{1, 2, 3, 4}}, {[]int{1, 2, 3}, 4, 9, 3, []int{2, 3, 4}},
		{[]int{1, 2, 3}, 4, 9, 1, []int{4}}, {[]int{1, 2, 3}, 4, 9, 0, nil}, {[]int{1, 2, 3}, 4, 9, -1, nil},
		{[]int{1, 2, 3}, 4, 9, math.MinInt, nil}, {nil, 4, 9, 0, nil}, {nil, 4, 0, 1, []int{4}},
		{[]int{3, 1, 99, 99}, 4, 9, 3, []int{3, 1, 4}}, {[]int{3, 1, 99, 99}, 4, 9, 2, []int{1, 4}},
		{long, 600, 1000, 512, append(slices.Clone(long[89:]), 600)},
		{long, 600, 1000, 513, append(slices.Clone(long[89:]), 600)},
		{long, 600, 1000, math.MaxInt, append(slices.Clone(long[89:]), 600)},
		{long, 600, 1000, 511, append(slices.Clone(long[90:]), 600)},
	})
}

// P5.1: times and spans count as clamped, and are kept as they were handed in.
func TestPutKeepsTimesAsTheyAre(t *testing.T) {
	puts(t, []put{
		{nil, math.MaxInt, 1, 3, []int{math.MaxInt}}, {nil, math.MinInt, 1, 3, []int{math.MinInt}},
		{[]int{api.Top, math.MaxInt}, api.Top + 1, 1, 9, []int{api.Top, math.MaxInt, api.Top + 1}},
		{[]int{math.MaxInt, api.Top - 1}, api.Top, 1, 9, []int{math.MaxInt, api.Top}},
		{[]int{api.Top - 1}, math.MaxInt, 2, 9, []int{api.Top - 1, math.MaxInt}},
		{[]int{math.MinInt, -api.Top, -api.Top + 1}, 0, math.MaxInt, 9, []int{-api.Top + 1, 0}},
		{[]int{-api.Top, math.MinInt}, math.MinInt, 3, 9, []int{math.MinInt}},
		{[]int{math.MinInt}, 0, api.Top - 1, 9, []int{0}},
		{[]int{0, 1}, api.Top, math.MaxInt, 9, []int{1, api.Top}},
	})
}

// P5.1: as it is reckoned without an end.
func TestPutIsThoseWithin(t *testing.T) {
	for _, l := range lists() {
		for _, now := range edges {
			for _, width := range edges {
				all := append(inside(l, now, width), now)
				for _, most := range []int{-1, 0, 1, 2, 3, 512} {
					puts(t, []put{{l, now, width, most, lastOf(all, most)}})
				}
			}
		}
	}
}

// asked is a row of Count's arguments and what is wanted.
type asked struct {
	l          []int
	now, width int
	want       int
}

// counts runs the rows.
func counts(t *testing.T, rows []asked) {
	t.Helper()
	for _, r := range rows {
		if got := span.Count(r.l, r.now, r.width); got != r.want {
			t.Errorf("Count(%v, %d, %d): %d, want %d", r.l, r.now, r.width, got, r.want)
		}
	}
}

// P5.2: the chapter's example, and how the span goes along with now.
func TestCount(t *testing.T) {
	l := []int{3, 7, 9}
	counts(t, []asked{
		{l, 9, 6, 2}, {l, 9, 7, 3}, {l, 9, 2, 1}, {l, 9, 3, 2}, {l, 9, 1, 1}, {l, 9, 0, 0}, {l, 9, -1, 0},
		{l, 8, 6, 2}, {l, 7, 6, 2}, {l, 7, 4, 1}, {l, 6, 6, 1}, {l, 3, 6, 1}, {l, 2, 6, 0}, {l, 15, 6, 0}, {l, 14, 6, 1},
		{[]int{9, 3, 7}, 9, 6, 2}, {[]int{5, 5, 5}, 5, 1, 3}, {[]int{5, 5, 5}, 6, 1, 0}, {nil, 9, 6, 0}, {[]int{}, 0, 1, 0},
		{[]int{-3, -1, 0, 2}, 0, 3, 2}, {[]int{0}, 0, 1, 1},
	})
}

// P5.2: times and spans count as clamped.
func TestCountOfGreatTimes(t *testing.T) {
	counts(t, []asked{
		{[]int{api.Top, api.Top + 1, math.MaxInt}, api.Top, 1, 3}, {[]int{api.Top, api.Top - 1}, math.MaxInt, 1, 1},
		{[]int{api.Top, api.Top - 1}, math.MaxInt, 2, 2}, {[]int{math.MinInt, -api.Top}, -api.Top, 5, 0},
		{[]int{math.MinInt, -api.Top}, -api.Top, math.MaxInt, 0}, {[]int{-api.Top + 1}, 0, math.MaxInt, 1},
		{[]int{-api.Top + 1}, 1, math.MaxInt, 0}, {[]int{-api.Top + 2}, 1, math.MaxInt, 1},
		{[]int{math.MaxInt}, math.MaxInt, math.MinInt, 0}, {[]int{0}, 0, math.MinInt, 0},
		{[]int{api.Top}, api.Top - 1, math.MaxInt, 0},
	})
}

// P5.2: as it is reckoned without an end.
func TestCountIsHowManyAreWithin(t *testing.T) {
	for _, l := range lists() {
		for _, now := range edges {
			for _, width := range edges {
				counts(t, []asked{{l, now, width, len(inside(l, now, width))}})
			}
		}
	}
}

// P5.3: as many as the limit are not over it, one more is; a limit is held
// against them as it is.
func TestOver(t *testing.T) {
	l := []int{3, 7, 9}
	for _, r := range []struct {
		l                 []int
		now, width, limit int
		want              bool
	}{
		{l, 9, 6, 2, false}, {l, 9, 6, 1, true}, {l, 9, 6, 3, false}, {l, 9, 6, 0, true}, {l, 9, 7, 2, true},
		{l, 9, 7, 3, false}, {l, 2, 6, 0, false}, {l, 9, 0, 0, false}, {nil, 9, 6, 0, false}, {nil, 9, 6, 1, false},
		{nil, 9, 6, -1, true}, {l, 9, 0, -1, true}, {l, 9, 0, math.MinInt, true}, {l, 9, 6, math.MinInt, true},
		{l, 9, 7, math.MaxInt, false}, {l, 9, 7, api.Top + 1, false},
	} {
		if got := span.Over(r.l, r.now, r.width, r.limit); got != r.want {
			t.Errorf("Over(%v, %d, %d, %d): %v, want %v", r.l, r.now, r.width, r.limit, got, r.want)
		}
	}
}

// P5.3: as it is reckoned without an end.
func TestOverIsMoreThanTheLimit(t *testing.T) {
	for _, l := range lists() {
		for _, now := range edges {
			for _, width := range edges {
				count := len(inside(l, now, width))
				for _, limit := range []int{math.MinInt, -1, 0, 1, 2, count - 1, count, count + 1, 512, math.MaxInt} {
					if got := span.Over(l, now, width, limit); got != (count > limit) {
						t.Errorf("Over(%v, %d, %d, %d): %v", l, now, width, limit, got)
					}
				}
			}
		}
	}
}

// P5.4: a list that keeps one more than the limit tells of all times that ever
// were, at each of them and between them.
func TestOneMoreThanTheLimitIsEnough(t *testing.T) {
	rnd := rand.New(rand.NewSource(54))
	for range 400 {
		width, limit := 1+rnd.Intn(40), rnd.Intn(12)-1
		most := 1 + rnd.Intn(12)
		all, kept, now := []int{}, []int{}, rnd.Intn(100)-50
		for range 120 {
			now += rnd.Intn(most)
			if rnd.Intn(4) > 0 {
				all = append(all, now)
				kept = span.Put(kept, now, width, limit+1)
			}
			want := len(inside(all, now, width)) > limit
			if got := span.Over(kept, now, width, limit); got != want {
				t.Fatalf("of %v up to %d more than %d within %d: %v", all, now, limit, width, got)
			}
			if len(kept) > limit+1 {
				t.Fatalf("%d are kept, for a limit of %d", len(kept), limit)
			}
		}
	}
}

// P5.4: the greatest limit for which a list has room.
func TestOneMoreThanAGreatLimitIsEnough(t *testing.T) {
	kept := []int{}
	for now := range 2000 {
		kept = span.Put(kept, now, 6000, 511+1)
		if got := span.Over(kept, now, 6000, 511); got != (now >= 511) {
			t.Fatalf("%d times, over 511: %v", now+1, got)
		}
	}
}

// R3: what is handed in is not changed, nor what lies behind its end.
func TestNothingHandedInIsChanged(t *testing.T) {
	for _, l := range lists() {
		whole := append(slices.Clone(l), 1001, 1002, 1003, 1004)
		before := slices.Clone(whole)
		short := whole[:len(l)]
		for _, most := range []int{0, 1, 2, len(l), len(l) + 1, 512} {
			span.Put(short, 9, 6, most)
			span.Put(short, api.Top, math.MaxInt, most)
		}
		span.Count(short, 9, 6)
		span.Over(short, 9, 6, 1)
		if !slices.Equal(whole, before) {
			t.Errorf("%v, with what lies behind it: %v", before, whole)
		}
	}
}

// R3, R4: an answer is new memory, and nothing is kept from call to call.
func TestAnswersAreNewMemory(t *testing.T) {
	for _, most := range []int{0, 1, 2, 3, 4, 9} {
		l := []int{7, 8, 9}
		want := lastOf([]int{7, 8, 9, 9}, most)
		first, second := span.Put(l, 9, 6, most), span.Put(l, 9, 6, most)
		spoil(first)
		if !slices.Equal(l, []int{7, 8, 9}) || !slices.Equal(second, want) {
			t.Errorf("most %d: %v and %v", most, l, second)
		}
		spoil(l)
		if !slices.Equal(second, want) {
			t.Errorf("most %d: %v, with the argument overwritten", most, second)
		}
		if again := span.Put([]int{7, 8, 9}, 9, 6, most); !slices.Equal(again, want) {
			t.Errorf("most %d: %v, asked again", most, again)
		}
	}
}
