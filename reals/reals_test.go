package reals_test

import (
	"math"
	"math/big"
	"math/rand"
	"slices"
	"testing"

	"pinchcock/api"
	"pinchcock/reals"
)

var (
	nan   = math.NaN()
	minus = math.Copysign(0, -1)
	above = math.Inf(1)
	below = math.Inf(-1)
)

// row is real numbers in order, of each kind and beside each edge.
var row = []float64{
	below, -math.MaxFloat64, -1e300, -(1 << 62) * 2, -(1 << 62), -api.Top - 2, -api.Top, -api.Top + 1,
	-api.Top/2 - 1, -api.Top / 2, -api.Top/2 + 0.5, -10, -3.5, -3, -2.75, -2.5, -2.25, -2, -1.5,
	math.Nextafter(-1, -2), -1, math.Nextafter(-1, 0), -0.75, math.Nextafter(-0.5, -1), -0.5,
	math.Nextafter(-0.5, 0), -1e-300, -math.SmallestNonzeroFloat64, minus,
	0, math.SmallestNonzeroFloat64, 1e-300, math.Nextafter(0.5, 0), 0.5, math.Nextafter(0.5, 1), 0.75,
	math.Nextafter(1, 0), 1, math.Nextafter(1, 2), 1.5, 2, 2.25, 2.5, 2.75, 3, 3.5, 10,
	api.Top/2 - 0.5, api.Top / 2, api.Top/2 + 1, api.Top - 1, api.Top, api.Top + 2, 1 << 62,
	(1 << 62) * 2, 1e300, math.MaxFloat64, above, nan,
}

// bounds are limits at which an answer may turn.
var bounds = []int{
	math.MinInt, -api.Top - 1, -api.Top, -api.Top + 1, -api.Top / 2, -10, -3, -2, -1, 0,
	1, 2, 3, 10, api.Top / 2, api.Top - 1, api.Top, api.Top + 1, math.MaxInt,
}

// sample is the row and numbers of every size, the same ones in every run.
func sample() []float64 {
	rnd := rand.New(rand.NewSource(3))
	l := slices.Clone(row)
	for range 400 {
		l = append(l, math.Float64frombits(rnd.Uint64()))
		l = append(l, math.Ldexp(rnd.Float64()-0.5, rnd.Intn(60)))
		l = append(l, float64(rnd.Intn(2001)-1000)/4)
	}
	return l
}

// counted is what a number counts as.
func counted(n int) int {
	return max(-api.Top, min(api.Top, n))
}

// exact is x without an end; x must be a number within all bounds.
func exact(x float64) *big.Rat {
	return new(big.Rat).SetFloat64(x)
}

// whole is a whole number without an end.
func whole(n int) *big.Rat {
	return new(big.Rat).SetInt64(int64(n))
}

// same tells whether a and b are one real number, bit by bit, or both none.
func same(a, b float64) bool {
	return math.Float64bits(a) == math.Float64bits(b) || math.IsNaN(a) && math.IsNaN(b)
}

// taken is a row of Take's or Near's arguments and what is wanted.
type taken struct {
	x      float64
	lo, hi int
	want   int
	told   bool
}

// wants runs the rows.
func wants(t *testing.T, name string, f func(x float64, lo, hi int) (int, bool), rows []taken) {
	t.Helper()
	for _, r := range rows {
		if got, told := f(r.x, r.lo, r.hi); got != r.want || told != r.told {
			t.Errorf("%s(%v, %d, %d): %d %v, want %d %v", name, r.x, r.lo, r.hi, got, told, r.want, r.told)
		}
	}
}

// agrees holds f against the limits and, where nothing is told, against inner.
func agrees(t *testing.T, name string, f func(x float64, lo, hi int) (int, bool), inner func(x *big.Rat) int) {
	t.Helper()
	for _, x := range sample() {
		for _, lo := range bounds {
			for _, hi := range bounds {
				low := counted(lo)
				high := max(low, counted(hi))
				r := taken{x: x, lo: lo, hi: hi}
				switch {
				case math.IsNaN(x) || math.IsInf(x, -1):
					r.want, r.told = low, true
				case math.IsInf(x, 1):
					r.want, r.told = high, true
				case exact(x).Cmp(whole(low)) < 0:
					r.want, r.told = low, true
				case exact(x).Cmp(whole(high)) > 0:
					r.want, r.told = high, true
				default:
					r.want = inner(exact(x))
				}
				wants(t, name, f, []taken{r})
			}
		}
	}
}

// floor is the greatest whole number that is not above x.
func floor(x *big.Rat) int {
	// A Rat's denominator is above 0, and so Div rounds down.
	return int(new(big.Int).Div(x.Num(), x.Denom()).Int64())
}

// nearest is the whole number nearest to x, of two the even one.
func nearest(x *big.Rat) int {
	down := floor(x)
	rest := new(big.Rat).Sub(x, whole(down))
	switch rest.Cmp(big.NewRat(1, 2)) {
	case -1:
		return down
	case 1:
		return down + 1
	}
	return down + down&1
}

// P3.1: each kind, and the numbers next to the edges of the kinds.
func TestKind(t *testing.T) {
	rows := []struct {
		x    float64
		want int
	}{
		{nan, api.RealNan},
		{math.Float64frombits(0x7FF0000000000001), api.RealNan},
		{math.Float64frombits(0xFFF8000000000000), api.RealNan},
		{math.Float64frombits(0xFFFFFFFFFFFFFFFF), api.RealNan},
		{below, api.RealBelow}, {above, api.RealAbove},
		{minus, api.RealMinus}, {0, api.RealZero},
		{math.MaxFloat64, api.RealPlain}, {-math.MaxFloat64, api.RealPlain},
		{math.SmallestNonzeroFloat64, api.RealPlain}, {-math.SmallestNonzeroFloat64, api.RealPlain},
		{1, api.RealPlain}, {-1, api.RealPlain}, {2.5, api.RealPlain}, {-api.Top, api.RealPlain}, {1e300, api.RealPlain},
	}
	for _, r := range rows {
		if got := reals.Kind(r.x); got != r.want {
			t.Errorf("Kind(%v): %d, want %d", r.x, got, r.want)
		}
	}
}

// P3.2: the greatest whole number that is not above x, within the limits.
func TestTake(t *testing.T) {
	wants(t, "Take", reals.Take, []taken{
		{2.5, 0, 9, 2, false}, {2.999, 0, 9, 2, false}, {3, 0, 9, 3, false}, {0.5, 0, 9, 0, false},
		{-2.5, -9, 9, -3, false}, {-0.5, -9, 9, -1, false}, {-3, -9, 9, -3, false},
		{math.Nextafter(3, 0), 0, 9, 2, false}, {math.Nextafter(3, 9), 0, 9, 3, false},
		{math.SmallestNonzeroFloat64, 0, 9, 0, false}, {-math.SmallestNonzeroFloat64, -9, 9, -1, false},
		{minus, 0, 9, 0, false}, {0, 0, 9, 0, false}, {minus, -9, 0, 0, false},
		{4095, 0, api.Adc, 4095, false}, {4094.5, 0, api.Adc, 4094, false},
	})
}

// P3.2: what is no number or beyond a limit is told, however near it is.
func TestTakeTellsWhatIsBeyond(t *testing.T) {
	wants(t, "Take", reals.Take, []taken{
		{nan, 0, 9, 0, true}, {nan, 3, 9, 3, true}, {nan, -9, -3, -9, true},
		{below, 0, 9, 0, true}, {below, -9, 9, -9, true}, {above, 0, 9, 9, true}, {above, -9, -3, -3, true},
		{-1, 0, 9, 0, true}, {-math.SmallestNonzeroFloat64, 0, 9, 0, true}, {minus, 1, 9, 1, true},
		{10, 0, 9, 9, true}, {9.5, 0, 9, 9, true}, {math.Nextafter(9, 10), 0, 9, 9, true}, {9, 0, 9, 9, false},
		{math.SmallestNonzeroFloat64, -9, 0, 0, true}, {minus, -9, -1, -1, true},
		{math.MaxFloat64, 0, 9, 9, true}, {-math.MaxFloat64, 0, 9, 0, true},
	})
}

// P3.2, P3.3: limits are clamped, and an upper one below the lower one counts
// as that one.
func TestLimitsCount(t *testing.T) {
	rows := []taken{
		{above, 0, math.MaxInt, api.Top, true}, {below, math.MinInt, 0, -api.Top, true},
		{nan, math.MinInt, math.MaxInt, -api.Top, true},
		{1e300, 0, math.MaxInt, api.Top, true}, {api.Top + 2, 0, math.MaxInt, api.Top, true},
		{-api.Top - 2, math.MinInt, 0, -api.Top, true},
		{api.Top, 0, math.MaxInt, api.Top, false}, {-api.Top, math.MinInt, 0, -api.Top, false},
		{api.Top - 1, -1, api.Top, api.Top - 1, false},
		{5, math.MaxInt, math.MaxInt, api.Top, true}, {5, math.MinInt, math.MinInt, -api.Top, true},
		{api.Top, math.MaxInt, api.Top + 1, api.Top, false}, {-api.Top, -api.Top - 1, math.MinInt, -api.Top, false},
		{5, 5, 3, 5, false}, {4, 5, 3, 5, true}, {3, 5, 3, 5, true}, {6, 5, 3, 5, true}, {5.25, 5, 3, 5, true},
		{nan, 5, 3, 5, true}, {above, 5, 3, 5, true}, {below, 5, 3, 5, true}, {0, 5, math.MinInt, 5, true},
		{7, 7, 7, 7, false}, {7.25, 7, 7, 7, true}, {6.75, 7, 7, 7, true},
	}
	wants(t, "Take", reals.Take, rows)
	wants(t, "Near", reals.Near, rows)
}

// P3.2: as reckoned without an end.
func TestTakeIsExact(t *testing.T) {
	agrees(t, "Take", reals.Take, floor)
}

// P3.3: the whole number nearest to x, of two the even one.
func TestNear(t *testing.T) {
	wants(t, "Near", reals.Near, []taken{
		{2.5, 0, 9, 2, false}, {3.5, 0, 9, 4, false}, {0.5, 0, 9, 0, false}, {1.5, 0, 9, 2, false},
		{-2.5, -9, 9, -2, false}, {-3.5, -9, 9, -4, false}, {-0.5, -9, 9, 0, false}, {-1.5, -9, 9, -2, false},
		{2.25, 0, 9, 2, false}, {2.75, 0, 9, 3, false}, {-2.25, -9, 9, -2, false}, {-2.75, -9, 9, -3, false},
		{math.Nextafter(0.5, 0), 0, 9, 0, false}, {math.Nextafter(0.5, 1), 0, 9, 1, false},
		{math.Nextafter(2.5, 3), 0, 9, 3, false}, {math.Nextafter(3.5, 3), 0, 9, 3, false},
		{math.Nextafter(-0.5, 0), -9, 9, 0, false}, {math.Nextafter(-0.5, -1), -9, 9, -1, false},
		{minus, 0, 9, 0, false}, {0, 0, 9, 0, false}, {8.5, 0, 9, 8, false}, {8.75, 0, 9, 9, false},
		{api.Top/2 - 0.5, 0, api.Top, api.Top / 2, false}, {api.Top/2 - 1.5, 0, api.Top, api.Top/2 - 2, false},
		{0.5 - api.Top/2, -api.Top, 0, -api.Top / 2, false},
	})
}

// P3.3: what is beyond a limit is told, though it be nearest to the limit.
func TestNearTellsWhatIsBeyond(t *testing.T) {
	wants(t, "Near", reals.Near, []taken{
		{nan, 0, 9, 0, true}, {nan, 3, 9, 3, true}, {below, -9, 9, -9, true}, {above, -9, 9, 9, true},
		{9.25, 0, 9, 9, true}, {9.75, 0, 9, 9, true}, {-0.25, 0, 9, 0, true}, {-0.5, 0, 9, 0, true},
		{-math.SmallestNonzeroFloat64, 0, 9, 0, true}, {math.Nextafter(9, 10), 0, 9, 9, true}, {minus, 1, 9, 1, true},
	})
}

// P3.3: as reckoned without an end.
func TestNearIsExact(t *testing.T) {
	agrees(t, "Near", reals.Near, nearest)
}

// P3.4: -1, 1 and 0; noughts; what is no number.
func TestOrder(t *testing.T) {
	other := math.Float64frombits(0xFFF0000000000007)
	rows := []struct {
		a, b float64
		want int
	}{
		{1, 2, -1}, {2, 1, 1}, {2, 2, 0}, {-1, 1, -1}, {-2, -1, -1}, {-1, -2, 1},
		{minus, 0, -1}, {0, minus, 1}, {0, 0, 0}, {minus, minus, 0},
		{minus, math.SmallestNonzeroFloat64, -1}, {-math.SmallestNonzeroFloat64, minus, -1},
		{0, -math.SmallestNonzeroFloat64, 1}, {math.SmallestNonzeroFloat64, 0, 1},
		{nan, above, 1}, {above, nan, -1}, {nan, below, 1}, {below, nan, -1},
		{nan, 0, 1}, {0, nan, -1}, {nan, minus, 1}, {minus, nan, -1}, {nan, 1, 1}, {-1, nan, -1},
		{nan, nan, 0}, {nan, other, 0}, {other, nan, 0}, {other, above, 1},
		{above, above, 0}, {below, below, 0}, {below, above, -1}, {above, math.MaxFloat64, 1},
		{below, -math.MaxFloat64, -1}, {1, math.Nextafter(1, 2), -1}, {api.Top, api.Top + 2, -1},
	}
	for _, r := range rows {
		if got := reals.Order(r.a, r.b); got != r.want {
			t.Errorf("Order(%v, %v): %d, want %d", r.a, r.b, got, r.want)
		}
	}
}

// P3.5: the second one, with a sign and with what is no number.
func TestMid(t *testing.T) {
	rows := [][4]float64{ // three and the one that is second
		{1, 2, 3, 2}, {3, 1, 2, 2}, {-1, -3, -2, -2}, {1, 1, 2, 1}, {2, 1, 2, 2}, {5, 5, 5, 5},
		{minus, 0, 1, 0}, {minus, 0, -1, minus}, {minus, minus, 0, minus}, {minus, 0, 0, 0},
		{nan, 1, 2, 2}, {nan, nan, 2, nan}, {nan, nan, nan, nan}, {nan, above, above, above},
		{nan, below, above, above}, {nan, below, below, below}, {nan, minus, 0, 0},
		{above, below, 7, 7}, {below, below, 7, below}, {above, above, 7, above},
		{math.MaxFloat64, above, -1, math.MaxFloat64}, {2048, 2000, 1e300, 2048},
	}
	for _, r := range rows {
		for _, p := range [][3]int{{0, 1, 2}, {0, 2, 1}, {1, 0, 2}, {1, 2, 0}, {2, 0, 1}, {2, 1, 0}} {
			a, b, c := r[p[0]], r[p[1]], r[p[2]]
			if got := reals.Mid(a, b, c); !same(got, r[3]) {
				t.Errorf("Mid(%v, %v, %v): %v, want %v", a, b, c, got, r[3])
			}
		}
	}
}

// P3.6: a whole number within the limits is taken, whatever comes, and where
// nothing is told it is less than one away.
func TestWhatIsTakenIsNear(t *testing.T) {
	calls := map[string]func(x float64, lo, hi int) (int, bool){"Take": reals.Take, "Near": reals.Near}
	for name, f := range calls {
		for _, x := range sample() {
			for _, lo := range bounds {
				for _, hi := range bounds {
					got, told := f(x, lo, hi)
					if got < counted(lo) || got > max(counted(lo), counted(hi)) {
						t.Errorf("%s(%v, %d, %d): %d is beyond a limit", name, x, lo, hi, got)
					}
					if told {
						continue
					}
					if away := new(big.Rat).Sub(exact(x), whole(got)); away.Abs(away).Cmp(whole(1)) >= 0 {
						t.Errorf("%s(%v, %d, %d): %d is one away, and more", name, x, lo, hi, got)
					}
				}
			}
		}
	}
}

// P3.7: real numbers stand in one row.
func TestRealsStandInOneRow(t *testing.T) {
	for i, a := range row {
		for j, b := range row {
			want := 0
			if i < j {
				want = -1
			} else if i > j {
				want = 1
			}
			if got := reals.Order(a, b); got != want {
				t.Errorf("Order(%v, %v): %d, want %d", a, b, got, want)
			}
		}
	}
}

// P3.7: that row hangs on nothing but the numbers: it turns round with them,
// and what is not after a second one is not after what that one is not after.
func TestOrderIsOneRowForAll(t *testing.T) {
	l := sample()[:400]
	slices.SortFunc(l, reals.Order)
	for i, a := range l {
		for j, b := range l {
			order := reals.Order(a, b)
			if order != -reals.Order(b, a) {
				t.Errorf("Order(%v, %v) is not the other way round behind", a, b)
			}
			if i <= j && order > 0 {
				t.Errorf("Order(%v, %v): %d, but they stand the other way", a, b, order)
			}
			if (order == 0) != same(a, b) {
				t.Errorf("Order(%v, %v): %d", a, b, order)
			}
		}
	}
}

// P3.5, P3.8: the second of three hangs on no order of theirs.
func TestMidHangsOnNoOrder(t *testing.T) {
	for i, a := range row {
		for j, b := range row {
			for k, c := range row {
				places := []int{i, j, k}
				slices.Sort(places)
				if got := reals.Mid(a, b, c); !same(got, row[places[1]]) {
					t.Errorf("Mid(%v, %v, %v): %v, want %v", a, b, c, got, row[places[1]])
				}
			}
		}
	}
}

// P3.8: one that is wild changes the second to one of the others at the most.
func TestOneWildChangesLittle(t *testing.T) {
	for i, a := range row {
		for j, b := range row {
			for k, wild := range row {
				if min(i, j) <= k && k <= max(i, j) {
					continue // it lies between the others
				}
				for _, got := range []float64{reals.Mid(wild, a, b), reals.Mid(a, wild, b), reals.Mid(a, b, wild)} {
					if !same(got, a) && !same(got, b) {
						t.Errorf("%v, %v and %v: the second is %v", a, b, wild, got)
					}
				}
			}
		}
	}
}

// The chapter's examples.
func TestExamples(t *testing.T) {
	wants(t, "Take", reals.Take, []taken{{minus, 0, 9, 0, false}, {nan, 0, 9, 0, true}})
	wants(t, "Near", reals.Near, []taken{{2.5, 0, 9, 2, false}})
}

// R4: an answer hangs on the arguments alone.
func TestNothingIsKept(t *testing.T) {
	for range 3 {
		wants(t, "Take", reals.Take, []taken{{2.5, 0, 9, 2, false}, {nan, 1, 9, 1, true}})
		wants(t, "Near", reals.Near, []taken{{3.5, 0, 9, 4, false}, {above, 1, 9, 9, true}})
		if got := reals.Mid(3, 1, 2); got != 2 {
			t.Errorf("Mid(3, 1, 2): %v", got)
		}
	}
}
