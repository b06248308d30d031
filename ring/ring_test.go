package ring_test

import (
	"math"
	"math/big"
	"math/rand"
	"slices"
	"testing"

	"pinchcock/api"
	"pinchcock/ring"
	"pinchcock/sat"
)

// counts are numbers of places, and such as are none.
var counts = []int{
	math.MinInt, math.MinInt + 1, -api.MaxRing, -4, -3, -2, -1, 0, 1, 2, 3, 4, 5, 6, 7,
	api.MaxRing - 2, api.MaxRing - 1, api.MaxRing, api.MaxRing + 1, api.MaxRing + 2,
	2 * api.MaxRing, math.MaxInt - 1, math.MaxInt,
}

// upTo is the numbers from 1 to n.
func upTo(n int) []int {
	return from(1, n)
}

// from is the numbers from a to b.
func from(a, b int) []int {
	l := []int{}
	for n := a; n <= b; n++ {
		l = append(l, n)
	}
	return l
}

// lists are lists of every length at which an answer may turn.
func lists() [][]int {
	rnd := rand.New(rand.NewSource(4))
	all := [][]int{nil, {}, {0}, {7}, {-7}, {math.MinInt}, {math.MaxInt}, {3, 3, 3}, {math.MinInt, math.MaxInt, 0}}
	for _, length := range []int{1, 2, 3, 4, 5, 6, api.MaxRing - 1, api.MaxRing, api.MaxRing + 1, 2*api.MaxRing + 3} {
		l := make([]int, length)
		for i := range l {
			l[i] = int(rnd.Uint64()) >> rnd.Intn(64)
		}
		all = append(all, upTo(length), l)
	}
	return all
}

// behind is the last n of l, found one by one.
func behind(l []int, n int) []int {
	last := []int{}
	for i, x := range l {
		if n > 0 && len(l)-i <= n {
			last = append(last, x)
		}
	}
	return last
}

// roomy is l with room behind its end, and the whole with that room.
func roomy(l []int) (short, whole []int) {
	whole = make([]int, len(l)+4)
	copy(whole, l)
	for i := len(l); i < len(whole); i++ {
		whole[i] = 1000 + i
	}
	return whole[:len(l)], whole
}

// spoil overwrites a list and the room behind its end.
func spoil(l []int) {
	l = l[:cap(l)]
	for i := range l {
		l[i] = -99
	}
}

// pushed is a row of Push's arguments and what is wanted.
type pushed struct {
	l       []int
	most, x int
	want    []int
}

// pushes runs the rows.
func pushes(t *testing.T, rows []pushed) {
	t.Helper()
	for _, r := range rows {
		if got := ring.Push(r.l, r.most, r.x); !slices.Equal(got, r.want) {
			t.Errorf("Push(%v, %d, %d): %v, want %v", r.l, r.most, r.x, got, r.want)
		}
	}
}

// P4.1: x stands behind, and the last ones are kept.
func TestPush(t *testing.T) {
	pushes(t, []pushed{
		{nil, 3, 1, []int{1}}, {[]int{}, 3, 1, []int{1}}, {[]int{1}, 3, 2, []int{1, 2}},
		{[]int{1, 2}, 3, 3, []int{1, 2, 3}}, {[]int{1, 2, 3}, 3, 4, []int{2, 3, 4}},
		{[]int{1, 2, 3}, 4, 4, []int{1, 2, 3, 4}}, {[]int{1, 2, 3}, 2, 4, []int{3, 4}},
		{[]int{1, 2, 3}, 1, 4, []int{4}}, {[]int{1, 2, 3, 4, 5, 6}, 3, 7, []int{5, 6, 7}},
		{[]int{3, 1, 2}, 3, 0, []int{1, 2, 0}}, {[]int{5, 5}, 9, 5, []int{5, 5, 5}}, {nil, 1, -4, []int{-4}},
	})
}

// P4.1: numbers are kept as they were handed in, however great they are.
func TestPushKeepsNumbersAsTheyAre(t *testing.T) {
	pushes(t, []pushed{
		{[]int{math.MinInt, math.MaxInt}, 3, api.Top + 1, []int{math.MinInt, math.MaxInt, api.Top + 1}},
		{[]int{-api.Top - 1}, 3, math.MaxInt, []int{-api.Top - 1, math.MaxInt}},
		{[]int{0}, 3, math.MinInt, []int{0, math.MinInt}},
	})
}

// P4.1: how many there may be counts as from 0 to MaxRing.
func TestPushMost(t *testing.T) {
	if api.MaxRing != 512 {
		t.Fatal("MaxRing is not 512")
	}
	pushes(t, []pushed{
		{[]int{1, 2}, 0, 3, nil}, {nil, 0, 3, nil}, {[]int{1, 2}, -1, 3, nil}, {[]int{1, 2}, math.MinInt, 3, nil},
		{upTo(510), 512, 511, upTo(511)}, {upTo(511), 512, 512, upTo(512)}, {upTo(512), 512, 513, from(2, 513)},
		{upTo(512), 511, 513, from(3, 513)}, {upTo(512), 513, 513, from(2, 513)},
		{upTo(512), math.MaxInt, 513, from(2, 513)}, {upTo(511), math.MaxInt, 512, upTo(512)},
		{upTo(2000), 512, 2001, from(1490, 2001)}, {upTo(2000), 3000, 2001, from(1490, 2001)},
		{upTo(2000), 2, 2001, []int{2000, 2001}}, {upTo(2000), 0, 2001, nil}, {upTo(2000), -3, 2001, nil},
	})
}

// P4.1: as found one by one.
func TestPushIsTheLastOnes(t *testing.T) {
	for _, l := range lists() {
		for _, most := range counts {
			want := behind(append(slices.Clone(l), 77), min(max(most, 0), 512))
			pushes(t, []pushed{{l, most, 77, want}})
		}
	}
}

// taken is a row of a list, a number of places, and what is wanted.
type taken struct {
	l    []int
	k    int
	want int
	ok   bool
}

// backs runs the rows.
func backs(t *testing.T, rows []taken) {
	t.Helper()
	for _, r := range rows {
		if got, ok := ring.Back(r.l, r.k); got != r.want || ok != r.ok {
			t.Errorf("Back(%v, %d): %d %v, want %d %v", r.l, r.k, got, ok, r.want, r.ok)
		}
	}
}

// P4.2: the one that stands so many places ahead of the last one.
func TestBack(t *testing.T) {
	backs(t, []taken{
		{[]int{5, 6, 7}, 0, 7, true}, {[]int{5, 6, 7}, 1, 6, true}, {[]int{5, 6, 7}, 2, 5, true},
		{[]int{4}, 0, 4, true}, {[]int{0}, 0, 0, true}, {[]int{0, -3}, 1, 0, true},
		{[]int{math.MinInt, math.MaxInt}, 0, math.MaxInt, true}, {[]int{math.MinInt, math.MaxInt}, 1, math.MinInt, true},
		{upTo(600), 0, 600, true}, {upTo(600), 512, 88, true}, {upTo(600), 599, 1, true},
	})
}

// P4.2: 0 and false, if there is none.
func TestBackOfNone(t *testing.T) {
	for _, k := range counts {
		backs(t, []taken{{nil, k, 0, false}, {[]int{}, k, 0, false}})
	}
	backs(t, []taken{
		{[]int{5, 6, 7}, 3, 0, false}, {[]int{5, 6, 7}, 4, 0, false}, {[]int{5, 6, 7}, -1, 0, false},
		{[]int{5, 6, 7}, -2, 0, false}, {[]int{5, 6, 7}, -3, 0, false},
		{[]int{5, 6, 7}, math.MaxInt, 0, false}, {[]int{5, 6, 7}, math.MinInt, 0, false},
		{[]int{4}, 1, 0, false}, {upTo(600), 600, 0, false},
	})
	short, _ := roomy([]int{5, 6, 7})
	backs(t, []taken{{short, -1, 0, false}, {short[1:], 2, 0, false}})
}

// P4.2: as found from behind, one by one.
func TestBackGoesAhead(t *testing.T) {
	for _, l := range lists() {
		for i, want := range l {
			backs(t, []taken{{l, len(l) - 1 - i, want, true}})
		}
	}
}

// P4.3: the last ones, in order; a number of places counts as from 0 to how
// many there are.
func TestLast(t *testing.T) {
	rows := []struct {
		l    []int
		n    int
		want []int
	}{
		{[]int{5, 6, 7}, 1, []int{7}}, {[]int{5, 6, 7}, 2, []int{6, 7}}, {[]int{5, 6, 7}, 3, []int{5, 6, 7}},
		{[]int{5, 6, 7}, 0, nil}, {[]int{5, 6, 7}, 4, []int{5, 6, 7}}, {[]int{5, 6, 7}, math.MaxInt, []int{5, 6, 7}},
		{[]int{5, 6, 7}, -1, nil}, {[]int{5, 6, 7}, math.MinInt, nil}, {[]int{9, 1, 4}, 2, []int{1, 4}},
		{nil, 0, nil}, {nil, 1, nil}, {nil, -1, nil}, {[]int{}, 3, nil}, {nil, math.MaxInt, nil},
		{[]int{math.MaxInt, math.MinInt}, 2, []int{math.MaxInt, math.MinInt}},
		{upTo(600), 599, from(2, 600)}, {upTo(600), 600, upTo(600)}, {upTo(600), 601, upTo(600)}, {upTo(600), 2, []int{599, 600}},
	}
	for _, r := range rows {
		if got := ring.Last(r.l, r.n); !slices.Equal(got, r.want) {
			t.Errorf("Last(%v, %d): %v, want %v", r.l, r.n, got, r.want)
		}
	}
}

// P4.3: as found one by one.
func TestLastIsTheLastOnes(t *testing.T) {
	for _, l := range lists() {
		for _, n := range counts {
			if got, want := ring.Last(l, n), behind(l, n); !slices.Equal(got, want) {
				t.Errorf("Last(%v, %d): %v, want %v", l, n, got, want)
			}
		}
	}
}

// P4.4: the greatest one, wherever it stands; 0 and false, if there is none.
func TestMost(t *testing.T) {
	rows := []struct {
		l    []int
		want int
		ok   bool
	}{
		{nil, 0, false}, {[]int{}, 0, false},
		{[]int{0}, 0, true}, {[]int{4}, 4, true}, {[]int{-4}, -4, true}, {[]int{1, 2, 3}, 3, true},
		{[]int{3, 2, 1}, 3, true}, {[]int{1, 3, 2}, 3, true}, {[]int{3, 3}, 3, true},
		{[]int{-3, -1, -2}, -1, true}, {[]int{-1, 0}, 0, true},
		{[]int{api.Top, api.Top + 2, api.Top + 1}, api.Top + 2, true}, {[]int{math.MinInt}, math.MinInt, true},
		{[]int{math.MinInt, math.MinInt + 1}, math.MinInt + 1, true}, {[]int{math.MaxInt, 0, math.MinInt}, math.MaxInt, true},
		{append([]int{9999}, upTo(600)...), 9999, true}, {upTo(600), 600, true},
	}
	for _, r := range rows {
		if got, ok := ring.Most(r.l); got != r.want || ok != r.ok {
			t.Errorf("Most(%v): %d %v, want %d %v", r.l, got, ok, r.want, r.ok)
		}
	}
	short, _ := roomy([]int{5, 6, 7})
	if got, ok := ring.Most(short); got != 7 || !ok {
		t.Errorf("Most looks behind the end: %d %v", got, ok)
	}
}

// P4.5: the sum, and whether it was changed on its way.
func TestTotal(t *testing.T) {
	rows := []struct {
		l       []int
		want    int
		changed bool
	}{
		{nil, 0, false}, {[]int{}, 0, false}, {[]int{0}, 0, false}, {[]int{1, 2, 3}, 6, false}, {[]int{-5, 2}, -3, false},
		{[]int{api.Top}, api.Top, false}, {[]int{-api.Top}, -api.Top, false}, {[]int{api.Top - 1, 1}, api.Top, false},
		{[]int{api.Top, 1}, api.Top, true}, {[]int{-api.Top, -1}, -api.Top, true}, {[]int{api.Top + 1}, api.Top, true},
		{[]int{math.MaxInt, math.MinInt}, 0, true}, {[]int{math.MinInt}, -api.Top, true},
		// The first one goes first: where it is changed on its way, order matters.
		{[]int{api.Top, 1, -5}, api.Top - 5, true}, {[]int{api.Top, -5, 1}, api.Top - 4, false},
		{[]int{-5, 1, api.Top}, api.Top - 4, false}, {[]int{-api.Top, -1, 5}, 5 - api.Top, true},
		{upTo(600), 180300, false},
	}
	for _, r := range rows {
		if got, changed := ring.Total(r.l); got != r.want || changed != r.changed {
			t.Errorf("Total(%v): %d %v, want %d %v", r.l, got, changed, r.want, r.changed)
		}
	}
}

// P4.5: it is sat.Sum of any list, and where nothing was changed, the sum
// without an end.
func TestTotalIsSum(t *testing.T) {
	for _, l := range lists() {
		got, changed := ring.Total(l)
		if want, wantChanged := sat.Sum(l...); got != want || changed != wantChanged {
			t.Errorf("Total(%v): %d %v, want %d %v", l, got, changed, want, wantChanged)
		}
		whole := new(big.Int)
		for _, x := range l {
			whole.Add(whole, big.NewInt(int64(x)))
		}
		if !changed && whole.Cmp(big.NewInt(int64(got))) != 0 {
			t.Errorf("Total(%v): %d, want %v", l, got, whole)
		}
	}
}

// P4.6: whatever was pushed, the last ones of all are there, in order, and no
// more than may be.
func TestWhateverWasPushed(t *testing.T) {
	rnd := rand.New(rand.NewSource(46))
	for _, most := range counts {
		kept, all := []int(nil), []int{}
		for range 1200 {
			x := int(rnd.Uint64()) >> rnd.Intn(64)
			kept, all = ring.Push(kept, most, x), append(all, x)
			if len(kept) > max(0, min(most, 512)) {
				t.Fatalf("most %d: %d are kept", most, len(kept))
			}
			if want := behind(all, min(most, 512)); !slices.Equal(kept, want) {
				t.Fatalf("most %d: of %d pushed %v are kept, want %v", most, len(all), kept, want)
			}
		}
	}
}

// P4.6: also where how many there may be changes from one to the next.
func TestRoomThatChanges(t *testing.T) {
	rnd := rand.New(rand.NewSource(64))
	kept, want := []int(nil), []int{}
	for x := range 5000 {
		most := rnd.Intn(600) - 20
		if x%7 != 0 {
			most = 30 + rnd.Intn(10)
		}
		kept = ring.Push(kept, most, x)
		if want = behind(append(want, x), min(most, 512)); !slices.Equal(kept, want) {
			t.Fatalf("push %d, most %d: %v, want %v", x, most, kept, want)
		}
	}
}

// R3: neither a list nor the room behind its end is changed.
func TestNothingHandedInIsChanged(t *testing.T) {
	for _, l := range lists() {
		short, whole := roomy(l)
		before := slices.Clone(whole)
		for _, n := range counts {
			ring.Push(short, n, 88)
			ring.Back(short, n)
			ring.Last(short, n)
		}
		ring.Most(short)
		ring.Total(short)
		if !slices.Equal(whole, before) {
			t.Errorf("of %v, and the room behind it, there came %v", before, whole)
		}
	}
}

// R3: an answer shares no memory with what was handed in, nor with another
// answer.
func TestAnswersAreNewMemory(t *testing.T) {
	for _, l := range lists() {
		for _, n := range counts {
			short, whole := roomy(l)
			before := slices.Clone(whole)
			first, second := ring.Push(short, n, 88), ring.Push(short, n, 88)
			third, fourth := ring.Last(short, n), ring.Last(short, n)
			wantPush, wantLast := slices.Clone(second), slices.Clone(fourth)
			spoil(first)
			spoil(third)
			if !slices.Equal(whole, before) {
				t.Fatalf("%v shares memory with an answer for %d", l, n)
			}
			if !slices.Equal(second, wantPush) || !slices.Equal(fourth, wantLast) {
				t.Fatalf("two answers for %v and %d share memory", l, n)
			}
			spoil(short)
			if !slices.Equal(second, wantPush) || !slices.Equal(fourth, wantLast) {
				t.Fatalf("an answer for %v and %d shares memory with the list", l, n)
			}
		}
	}
}

// R3: pushing onto one list twice leaves both answers as they were.
func TestTwoAnswersOfOneList(t *testing.T) {
	l := ring.Push(ring.Push(ring.Push(nil, 9, 1), 9, 2), 9, 3)
	one, other := ring.Push(l, 9, 4), ring.Push(l, 9, 5)
	if !slices.Equal(one, []int{1, 2, 3, 4}) || !slices.Equal(other, []int{1, 2, 3, 5}) || !slices.Equal(l, []int{1, 2, 3}) {
		t.Errorf("%v and %v, pushed onto %v", one, other, l)
	}
}

// R4: an answer hangs on the arguments alone, not on how much room a list has.
func TestNothingIsKept(t *testing.T) {
	for _, l := range lists() {
		short, _ := roomy(l)
		for _, n := range counts {
			for range 2 {
				if !slices.Equal(ring.Push(l, n, 6), ring.Push(short, n, 6)) || !slices.Equal(ring.Last(l, n), ring.Last(short, n)) {
					t.Errorf("%v, %d: the answer hangs on room", l, n)
				}
			}
		}
	}
}

// The chapter's example.
func TestExamples(t *testing.T) {
	pushes(t, []pushed{{[]int{1, 2, 3}, 3, 4, []int{2, 3, 4}}})
}
