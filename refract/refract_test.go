package refract_test

import (
	"math"
	"math/rand"
	"slices"
	"testing"

	"pinchcock/api"
	"pinchcock/refract"
)

// row is what Step is given, and what is wanted.
type row struct {
	wait int
	edge bool
	left int
	drop bool
}

// runs runs the rows.
func runs(t *testing.T, rows []row) {
	t.Helper()
	for _, r := range rows {
		if left, drop := refract.Step(r.wait, r.edge); left != r.left || drop != r.drop {
			t.Errorf("Step(%d, %v): %d, %v, want %d, %v", r.wait, r.edge, left, drop, r.left, r.drop)
		}
	}
}

// drops is in which of these ticks there are drops.
func drops(wait int, edges []bool) []bool {
	all := make([]bool, len(edges))
	for i, edge := range edges {
		wait, all[i] = refract.Step(wait, edge)
	}
	return all
}

// wanted is in which of these ticks there are to be drops: an edge counts, unless
// one of the four ticks ahead had a drop.
func wanted(edges []bool) []bool {
	all := make([]bool, len(edges))
	for i, edge := range edges {
		all[i] = edge && !slices.Contains(all[max(i-4, 0):i], true)
	}
	return all
}

// P19.1: nothing counts as long as some ticks are left; then an edge does.
func TestStep(t *testing.T) {
	runs(t, []row{
		{0, true, 4, true}, {0, false, 0, false},
		{1, true, 0, false}, {1, false, 0, false}, {2, true, 1, false}, {2, false, 1, false},
		{3, true, 2, false}, {3, false, 2, false}, {4, true, 3, false}, {4, false, 3, false},
	})
}

// P19.1: how many are left counts as from 0 to 4.
func TestWaitsBeyond(t *testing.T) {
	for _, low := range []int{math.MinInt, math.MinInt + 1, -api.Top, -1 << 32, -5, -4, -2, -1} {
		runs(t, []row{{low, true, 4, true}, {low, false, 0, false}})
	}
	for _, high := range []int{5, 6, 8, 256, 1 << 32, api.MaxTick, api.Top, math.MaxInt - 1, math.MaxInt} {
		runs(t, []row{{high, true, 3, false}, {high, false, 3, false}})
	}
}

// P19.2: an edge counts, unless one of the four ticks ahead had a drop: whatever
// the edges are, so that two drops are five ticks apart at the least.
func TestEdges(t *testing.T) {
	for bits := range 1 << 13 {
		edges := make([]bool, 13)
		for i := range edges {
			edges[i] = bits>>i&1 != 0
		}
		if got := drops(0, edges); !slices.Equal(got, wanted(edges)) {
			t.Fatalf("%v: %v, want %v", edges, got, wanted(edges))
		}
	}
}

// P19.2: also in long rows, from any wait on, and with few edges as well as with
// many.
func TestDropsAreApart(t *testing.T) {
	rnd := rand.New(rand.NewSource(192))
	for rarity := 1; rarity <= 20; rarity++ {
		edges := make([]bool, 3000)
		for i := range edges {
			edges[i] = rnd.Intn(rarity) == 0
		}
		if got := drops(0, edges); !slices.Equal(got, wanted(edges)) {
			t.Fatalf("an edge in %d ticks: not as it is to be", rarity)
		}
		last := -5
		for i, drop := range drops(rnd.Intn(40)-20, edges) {
			if drop && (i-last < 5 || !edges[i]) {
				t.Fatalf("drops at %d and %d", last, i)
			}
			if drop {
				last = i
			}
		}
	}
}

// R4: nothing is kept from call to call.
func TestNothingIsKept(t *testing.T) {
	for range 5 {
		runs(t, []row{{0, true, 4, true}, {0, true, 4, true}, {4, true, 3, false}})
	}
}

// The chapter's example: edges in each of ten ticks.
func TestExample(t *testing.T) {
	edges := slices.Repeat([]bool{true}, 10)
	want := []bool{true, false, false, false, false, true, false, false, false, false}
	if got := drops(0, edges); !slices.Equal(got, want) {
		t.Errorf("%v", got)
	}
}
