package quot_test

import (
	"math"
	"math/big"
	"math/rand"
	"testing"

	"pinchcock/api"
	"pinchcock/quot"
)

// edges are the numbers at which an answer may turn, and some between them.
var edges = []int{
	math.MinInt, math.MinInt + 1, -1 << 62, -2 * api.Top, -api.Top - 2, -api.Top - 1,
	-api.Top, -api.Top + 1, -api.Top + 2, -api.Top/2 - 1, -api.Top / 2, -api.Top/2 + 1,
	-1 << 32, -94906266, -94906265, -1 << 26, -1000, -10, -7, -4, -3, -2, -1,
	0, 1, 2, 3, 4, 7, 10, 1000, 1 << 11, 1 << 26, 94906265, 94906266, 1 << 32,
	api.Top/2 - 1, api.Top / 2, api.Top/2 + 1, api.Top - 2, api.Top - 1, api.Top,
	api.Top + 1, api.Top + 2, 2 * api.Top, 1 << 62, math.MaxInt - 1, math.MaxInt,
}

// sample is the edges and numbers of every length, the same ones in every run.
func sample() []int {
	rnd := rand.New(rand.NewSource(1))
	l := append([]int(nil), edges...)
	for width := 3; width < 64; width += 2 {
		n := int(rnd.Uint64() >> (64 - width))
		l = append(l, n, -n)
	}
	return l
}

// counted is what a number counts as.
func counted(n int) int {
	return max(-api.Top, min(api.Top, n))
}

// fraction is a by b without an end, b being none of what counts as 0.
func fraction(a, b int) *big.Rat {
	return big.NewRat(int64(counted(a)), int64(counted(b)))
}

// floor is the greatest whole number that is not above x.
func floor(x *big.Rat) *big.Int {
	// A Rat's denominator is above 0, and so Div rounds down.
	return new(big.Int).Div(x.Num(), x.Denom())
}

// expect holds an answer and its bool against what is wanted.
func expect(t *testing.T, name string, a, b, got int, ok bool, want int, wantOK bool) {
	t.Helper()
	if got != want || ok != wantOK {
		t.Errorf("%s(%d, %d): %d %v, want %d %v", name, a, b, got, ok, want, wantOK)
	}
}

// wants runs rows of a, b and the answer that is wanted beside true.
func wants(t *testing.T, name string, f func(a, b int) (int, bool), rows [][3]int) {
	t.Helper()
	for _, r := range rows {
		got, ok := f(r[0], r[1])
		expect(t, name, r[0], r[1], got, ok, r[2], true)
	}
}

// agrees holds f against the same reckoned without an end, and its false where
// b is 0.
func agrees(t *testing.T, name string, f func(a, b int) (int, bool), exact func(a, b int) int) {
	t.Helper()
	l := sample()
	for _, a := range l {
		for _, b := range l {
			want := 0
			if b != 0 {
				want = exact(a, b)
			}
			got, ok := f(a, b)
			expect(t, name, a, b, got, ok, want, b != 0)
		}
	}
}

// P2.1: the greatest whole number that is not above a by b.
func TestFloor(t *testing.T) {
	wants(t, "Floor", quot.Floor, [][3]int{
		{7, 2, 3}, {-7, 2, -4}, {7, -2, -4}, {-7, -2, 3},
		{6, 2, 3}, {-6, 2, -3}, {6, -2, -3}, {-6, -2, 3},
		{1, 3, 0}, {-1, 3, -1}, {1, -3, -1}, {-1, -3, 0},
		{2, 3, 0}, {-2, 3, -1}, {0, 5, 0}, {0, -5, 0},
		{api.Top, 1, api.Top}, {api.Top, -1, -api.Top},
		{-api.Top, 1, -api.Top}, {-api.Top, -1, api.Top},
		{api.Top, api.Top, 1}, {-api.Top, api.Top, -1},
		{api.Top - 1, api.Top, 0}, {1 - api.Top, api.Top, -1},
		{api.Top, 2, api.Top / 2}, {api.Top - 1, 2, api.Top/2 - 1}, {1 - api.Top, 2, -api.Top / 2},
		{1, -api.Top, -1}, {-1, -api.Top, 0},
	})
}

// P2.1: numbers beyond a limit count as that limit.
func TestFloorCountsNumbersAsClamped(t *testing.T) {
	wants(t, "Floor", quot.Floor, [][3]int{
		{api.Top + 1, 1, api.Top}, {-api.Top - 1, 1, -api.Top},
		{math.MaxInt, 1, api.Top}, {math.MinInt, 1, -api.Top}, {math.MinInt, -1, api.Top},
		{math.MaxInt, math.MaxInt, 1}, {math.MinInt, math.MinInt, 1}, {math.MaxInt, math.MinInt, -1},
		{api.Top, math.MaxInt, 1}, {api.Top, api.Top + 1, 1}, {1, math.MinInt, -1},
	})
}

// P2.1: as reckoned without an end.
func TestFloorIsExact(t *testing.T) {
	agrees(t, "Floor", quot.Floor, func(a, b int) int {
		return int(floor(fraction(a, b)).Int64())
	})
}

// P2.2: a less Floor times b.
func TestMod(t *testing.T) {
	wants(t, "Mod", quot.Mod, [][3]int{
		{7, 2, 1}, {-7, 2, 1}, {7, -2, -1}, {-7, -2, -1},
		{6, 2, 0}, {-6, 2, 0}, {6, -2, 0}, {-6, -2, 0},
		{1, 3, 1}, {-1, 3, 2}, {1, -3, -2}, {-1, -3, -1},
		{0, 5, 0}, {0, -5, 0}, {9, 1, 0}, {-9, -1, 0},
		{api.Top, 1, 0}, {api.Top, api.Top, 0}, {-api.Top, api.Top, 0},
		{api.Top, api.Top - 1, 1}, {-api.Top, api.Top - 1, api.Top - 2},
		{1, api.Top, 1}, {-1, api.Top, api.Top - 1}, {1, -api.Top, 1 - api.Top},
	})
}

// P2.2: numbers beyond a limit count as that limit.
func TestModCountsNumbersAsClamped(t *testing.T) {
	wants(t, "Mod", quot.Mod, [][3]int{
		{api.Top + 1, 3, 2}, {-api.Top - 1, 3, 1}, // Top is one less than a multiple of 3
		{math.MaxInt, 2, 0}, {math.MinInt + 1, 2, 0},
		{5, api.Top + 3, 5}, {5, math.MinInt, 5 - api.Top}, {math.MaxInt, math.MinInt, 0},
	})
}

// P2.2: as reckoned without an end.
func TestModIsExact(t *testing.T) {
	agrees(t, "Mod", quot.Mod, func(a, b int) int {
		times := new(big.Int).Mul(floor(fraction(a, b)), big.NewInt(int64(counted(b))))
		return int(new(big.Int).Sub(big.NewInt(int64(counted(a))), times).Int64())
	})
}

// P2.3: the nearest whole number, of two the greater one.
func TestNear(t *testing.T) {
	wants(t, "Near", quot.Near, [][3]int{
		{7, 2, 4}, {-7, 2, -3}, {7, -2, -3}, {-7, -2, 4},
		{5, 2, 3}, {-5, 2, -2}, {1, 2, 1}, {-1, 2, 0}, {1, -2, 0}, {-1, -2, 1},
		{3, 2, 2}, {-3, 2, -1}, {3, -2, -1}, {-3, -2, 2},
		{4, 3, 1}, {5, 3, 2}, {-4, 3, -1}, {-5, 3, -2}, {4, -3, -1}, {5, -3, -2},
		{6, 2, 3}, {-6, 2, -3}, {0, 5, 0}, {0, -5, 0},
		{api.Top, 1, api.Top}, {-api.Top, 1, -api.Top}, {api.Top, -1, -api.Top}, {-api.Top, -1, api.Top},
		{api.Top - 1, 2, api.Top / 2}, {1 - api.Top, 2, 1 - api.Top/2}, {api.Top, api.Top, 1},
		{api.Top / 2, api.Top, 1}, {api.Top/2 - 1, api.Top, 0},
		{-api.Top / 2, api.Top, 0}, {-api.Top/2 - 1, api.Top, -1},
		{api.Top, api.Top - 1, 1}, {1, api.Top, 0}, {1, -api.Top, 0},
	})
}

// P2.3: numbers beyond a limit count as that limit.
func TestNearCountsNumbersAsClamped(t *testing.T) {
	wants(t, "Near", quot.Near, [][3]int{
		{api.Top + 1, 1, api.Top}, {math.MinInt, 1, -api.Top}, {math.MinInt, -1, api.Top},
		{math.MaxInt, 2, api.Top / 2}, {api.Top / 2, math.MaxInt, 1}, {api.Top / 2, math.MinInt, 0},
		{math.MaxInt, math.MaxInt, 1}, {math.MaxInt, math.MinInt, -1},
	})
}

// P2.3: no whole number is nearer, and of two the greater one is told.
func TestNearIsNearest(t *testing.T) {
	half := big.NewRat(1, 2)
	agrees(t, "Near", quot.Near, func(a, b int) int {
		exact := fraction(a, b)
		low := floor(exact)
		above := new(big.Rat).Sub(exact, new(big.Rat).SetInt(low))
		if above.Cmp(half) < 0 {
			return int(low.Int64())
		}
		return int(low.Int64()) + 1
	})
}

// P2.1, P2.2, P2.3: 0 and false, if b is 0.
func TestNothingIsDividedByZero(t *testing.T) {
	for _, a := range edges {
		for name, f := range map[string]func(a, b int) (int, bool){"Floor": quot.Floor, "Mod": quot.Mod, "Near": quot.Near} {
			got, ok := f(a, 0)
			expect(t, name, a, 0, got, ok, 0, false)
		}
	}
}

// product is one call of MulDiv, and what it is to answer.
type product struct {
	a, b, c, want int
	wrong         api.Errno
}

func (p product) expect(t *testing.T) {
	t.Helper()
	got, wrong := quot.MulDiv(p.a, p.b, p.c)
	if got != p.want || wrong != p.wrong {
		t.Errorf("MulDiv(%d, %d, %d): %d %d, want %d %d", p.a, p.b, p.c, got, wrong, p.want, p.wrong)
	}
}

// exact is what MulDiv is to answer, reckoned without an end.
func exact(a, b, c int) product {
	if c == 0 {
		return product{a, b, c, 0, api.ErrZero}
	}
	whole := floor(new(big.Rat).Mul(fraction(a, 1), fraction(b, c)))
	if whole.Cmp(big.NewInt(api.Top)) > 0 {
		return product{a, b, c, api.Top, api.ErrBig}
	}
	if whole.Cmp(big.NewInt(-api.Top)) < 0 {
		return product{a, b, c, -api.Top, api.ErrBig}
	}
	return product{a, b, c, int(whole.Int64()), api.OK}
}

// P2.4: the greatest whole number that is not above the product by c.
func TestMulDiv(t *testing.T) {
	for _, p := range []product{
		{a: 10, b: 10, c: 3, want: 33},
		{a: -10, b: 10, c: 3, want: -34},
		{a: 10, b: -10, c: 3, want: -34},
		{a: 10, b: 10, c: -3, want: -34},
		{a: -10, b: -10, c: 3, want: 33},
		{a: -10, b: 10, c: -3, want: 33},
		{a: 10, b: -10, c: -3, want: 33},
		{a: -10, b: -10, c: -3, want: -34},
		{a: 6, b: 4, c: 3, want: 8},
		{a: -6, b: 4, c: 3, want: -8},
		{a: 1, b: 1, c: 2, want: 0},
		{a: -1, b: 1, c: 2, want: -1},
		{a: 0, b: 7, c: 3, want: 0},
		{a: 0, b: -7, c: 3, want: 0},
		{a: 7, b: 0, c: -3, want: 0},
		{a: 1, b: 1, c: api.Top, want: 0},
		{a: 1, b: -1, c: api.Top, want: -1},
	} {
		p.expect(t)
	}
}

// P2.4: the product is exact, however great it is.
func TestMulDivOfGreatProducts(t *testing.T) {
	for _, p := range []product{
		{a: api.Top, b: api.Top, c: api.Top, want: api.Top},
		{a: -api.Top, b: api.Top, c: api.Top, want: -api.Top},
		{a: -api.Top, b: -api.Top, c: -api.Top, want: -api.Top},
		{a: api.Top, b: api.Top - 1, c: api.Top, want: api.Top - 1},
		{a: api.Top - 1, b: api.Top - 1, c: api.Top, want: api.Top - 2},
		{a: api.Top - 1, b: 1 - api.Top, c: api.Top, want: 1 - api.Top},
		{a: 1 << 40, b: 1 << 40, c: 1 << 41, want: 1 << 39},
		{a: 1<<40 + 1, b: 1<<40 + 1, c: 1 << 41, want: 1<<39 + 1},
		{a: 1<<40 + 1, b: -1<<40 - 1, c: 1 << 41, want: -1<<39 - 2},
	} {
		p.expect(t)
	}
}

// P2.4: 0 and ErrZero, if c is 0, whatever the product is.
func TestMulDivByZero(t *testing.T) {
	for _, a := range edges {
		for _, b := range edges {
			product{a: a, b: b, want: 0, wrong: api.ErrZero}.expect(t)
		}
	}
}

// P2.4: beyond a limit, that limit and ErrBig; what is rounded down to a limit
// is not beyond it.
func TestMulDivBeyondALimit(t *testing.T) {
	for _, p := range []product{
		{a: api.Top, b: 1, c: 1, want: api.Top},
		{a: api.Top, b: -1, c: 1, want: -api.Top},
		{a: api.Top, b: 2, c: 2, want: api.Top},
		{a: api.Top / 2, b: 2, c: 1, want: api.Top},
		{a: api.Top/2 + 1, b: 2, c: 1, want: api.Top, wrong: api.ErrBig},
		{a: api.Top/2 + 1, b: -2, c: 1, want: -api.Top, wrong: api.ErrBig},
		{a: api.Top/2 + 1, b: -2, c: -1, want: api.Top, wrong: api.ErrBig},
		{a: api.Top/2 + 1, b: 2, c: -1, want: -api.Top, wrong: api.ErrBig},
		{a: api.Top, b: 3, c: 2, want: api.Top, wrong: api.ErrBig},
		{a: -api.Top, b: 3, c: 2, want: -api.Top, wrong: api.ErrBig},
		{a: api.Top, b: api.Top, c: api.Top - 1, want: api.Top, wrong: api.ErrBig},
		{a: api.Top, b: -api.Top, c: api.Top - 1, want: -api.Top, wrong: api.ErrBig},
		{a: api.Top, b: api.Top, c: 1, want: api.Top, wrong: api.ErrBig},
		{a: -api.Top, b: api.Top, c: 1, want: -api.Top, wrong: api.ErrBig},
		{a: -api.Top, b: -api.Top, c: -1, want: -api.Top, wrong: api.ErrBig},
		// Top and a half, rounded down; and below 0.
		{a: 5, b: 3602879701896397, c: 2, want: api.Top},
		{a: -5, b: 3602879701896397, c: 2, want: -api.Top, wrong: api.ErrBig},
		// Top less a half, rounded down; and below 0.
		{a: 3, b: 6004799503160661, c: 2, want: api.Top - 1},
		{a: 3, b: 6004799503160661, c: -2, want: -api.Top},
		// Top and two thirds; Top and a third; Top less a third.
		{a: 7, b: 3860228252031854, c: 3, want: api.Top},
		{a: 97, b: -278573172827041, c: 3, want: -api.Top, wrong: api.ErrBig},
		{a: -5, b: 5404319552844595, c: 3, want: -api.Top},
		{a: -5, b: 5404319552844595, c: -3, want: api.Top - 1},
	} {
		p.expect(t)
	}
}

// P2.4: a quotient of more than 64 bits is too great, also where its lower 64
// bits alone tell a small number.
func TestMulDivAroundAWordsEnd(t *testing.T) {
	for _, p := range []product{
		{a: api.Top, b: 1 << 11, c: 1, want: api.Top, wrong: api.ErrBig},
		{a: api.Top, b: -1 << 11, c: 1, want: -api.Top, wrong: api.ErrBig},
		{a: api.Top, b: 1 << 10, c: 1, want: api.Top, wrong: api.ErrBig},
		{a: api.Top, b: 1 << 12, c: 1, want: api.Top, wrong: api.ErrBig},
		{a: api.Top, b: 3 << 11, c: 3, want: api.Top, wrong: api.ErrBig},
		// 2^64 less a half, three quarters, an eighth.
		{a: 8191, b: 4504149450301441, c: 2, want: api.Top, wrong: api.ErrBig},
		{a: -8191, b: 4504149450301441, c: 2, want: -api.Top, wrong: api.ErrBig},
		{a: 19813, b: -3724169802394297, c: 4, want: -api.Top, wrong: api.ErrBig},
		{a: 24167, b: 6869727176041129, c: -9, want: -api.Top, wrong: api.ErrBig},
		// The product has more than 64 bits, the quotient has not.
		{a: api.Top, b: 1 << 11, c: 1 << 11, want: api.Top},
		{a: api.Top, b: 1 << 12, c: 1 << 20, want: 1 << 45},
	} {
		p.expect(t)
	}
}

// P2.4: numbers beyond a limit count as that limit, and that alone is no error.
func TestMulDivCountsNumbersAsClamped(t *testing.T) {
	for _, p := range []product{
		{a: api.Top + 1, b: 1, c: 1, want: api.Top},
		{a: 1, b: -api.Top - 1, c: 1, want: -api.Top},
		{a: math.MaxInt, b: 1, c: 2, want: api.Top / 2},
		{a: math.MinInt, b: -1, c: 1, want: api.Top},
		{a: api.Top, b: 1, c: math.MaxInt, want: 1},
		{a: api.Top - 1, b: 1, c: math.MinInt, want: -1},
		{a: math.MinInt, b: math.MinInt, c: math.MinInt, want: -api.Top},
		{a: math.MaxInt, b: math.MaxInt, c: 1, want: api.Top, wrong: api.ErrBig},
	} {
		p.expect(t)
	}
}

// P2.4: as reckoned without an end, for all edges.
func TestMulDivIsExactAtEdges(t *testing.T) {
	for _, a := range edges {
		for _, b := range edges {
			for _, c := range edges {
				exact(a, b, c).expect(t)
			}
		}
	}
}

// P2.4: as reckoned without an end, for numbers of all lengths; with such c
// besides that the quotient lies near a limit.
func TestMulDivIsExact(t *testing.T) {
	rnd := rand.New(rand.NewSource(2))
	number := func() int {
		n := int(rnd.Uint64() >> (10 + rnd.Intn(54)))
		return n - 2*n*rnd.Intn(2)
	}
	for range 40000 {
		a, b, c := number(), number(), number()
		exact(a, b, c).expect(t)
		near := floor(new(big.Rat).Mul(fraction(a, 1), fraction(b, api.Top)))
		exact(a, b, int(near.Int64())+rnd.Intn(5)-2).expect(t)
	}
}

// P2.5: the quotient times b, and what is left, are a.
func TestQuotientAndRestAreTheWhole(t *testing.T) {
	l := sample()
	for _, a := range l {
		for _, b := range l {
			if b == 0 {
				continue
			}
			q, _ := quot.Floor(a, b)
			r, _ := quot.Mod(a, b)
			whole := new(big.Int).Mul(big.NewInt(int64(q)), big.NewInt(int64(counted(b))))
			whole.Add(whole, big.NewInt(int64(r)))
			if whole.Cmp(big.NewInt(int64(counted(a)))) != 0 {
				t.Errorf("%d times %d, and %d left, are %s, not %d", q, b, r, whole, a)
			}
		}
	}
}

// P2.5: what is left has the sign of b, or is 0, and is less far from 0.
func TestWhatIsLeftIsLess(t *testing.T) {
	l := sample()
	for _, a := range l {
		for _, b := range l {
			r, ok := quot.Mod(a, b)
			if !ok || r == 0 {
				continue
			}
			if (r < 0) != (b < 0) {
				t.Errorf("Mod(%d, %d): %d has not the sign of %d", a, b, r, b)
			}
			if max(r, -r) >= max(counted(b), -counted(b)) {
				t.Errorf("Mod(%d, %d): %d is as far from 0 as %d", a, b, r, b)
			}
		}
	}
}

// P2.6: what is multiplied and divided by the same is as it was.
func TestWhatIsMultipliedAndDividedByTheSame(t *testing.T) {
	l := sample()
	for _, a := range l {
		for _, b := range l {
			if b != 0 {
				product{a: a, b: b, c: b, want: counted(a)}.expect(t)
				product{a: b, b: a, c: b, want: counted(a)}.expect(t)
			}
		}
	}
}

// R4: what is told hangs on the arguments alone, also behind an error.
func TestNothingIsKept(t *testing.T) {
	for range 3 {
		product{a: 10, b: 10, c: 3, want: 33}.expect(t)
		product{a: api.Top, b: -2, c: 1, want: -api.Top, wrong: api.ErrBig}.expect(t)
		product{a: 10, b: 10, c: 3, want: 33}.expect(t)
		product{a: 10, b: 10, c: 0, want: 0, wrong: api.ErrZero}.expect(t)
		product{a: api.Top, b: 2, c: 1, want: api.Top, wrong: api.ErrBig}.expect(t)
	}
}

// The chapter's examples: -7 by 2 is -4, 1 left; nearest -3. 10 times 10 by 3
// is 33.
func TestExamples(t *testing.T) {
	wants(t, "Floor", quot.Floor, [][3]int{{-7, 2, -4}})
	wants(t, "Mod", quot.Mod, [][3]int{{-7, 2, 1}})
	wants(t, "Near", quot.Near, [][3]int{{-7, 2, -3}})
	product{a: 10, b: 10, c: 3, want: 33}.expect(t)
}
