package pi_test

import (
	"math"
	"math/big"
	"math/rand"
	"testing"

	"pinchcock/api"
	"pinchcock/pi"
)

// part is how many parts a step of the opening has, full the greatest opening,
// and all the greatest sum.
const (
	part = 65536
	full = 300
	all  = 19660800
)

// wild are numbers at and beyond their limits.
var wild = []int{math.MinInt, math.MinInt + 1, -api.Top - 1, -api.Top, -api.Top + 1, -1 << 32, -all - 1, -all, -part - 1, -part, -part + 1, -1000, -17, -2, -1, 0, 1, 2, 16, 299, 300, 301, 1000, part - 1, part, part + 1, all - part, all - 1, all, all + 1, all + part, 1 << 32, api.Top - 1, api.Top, api.Top + 1, math.MaxInt - 1, math.MaxInt}

// within is n from low to high.
func within(n, low, high int) int {
	return min(max(n, low), high)
}

// product is what sat.Mul is to tell, by numbers without an end.
func product(a, b int) int {
	x := big.NewInt(int64(within(a, -api.Top, api.Top)))
	x.Mul(x, big.NewInt(int64(within(b, -api.Top, api.Top))))
	if x.CmpAbs(big.NewInt(api.Top)) > 0 {
		return x.Sign() * api.Top
	}
	return int(x.Int64())
}

// asked is the opening that is asked for.
func asked(sum, fault, kp int) int {
	n := within(product(kp, fault)+within(sum, 0, all), -api.Top, api.Top)
	q := n / part
	if n%part < 0 {
		q--
	}
	return q
}

// wantedOut is what Out is to tell.
func wantedOut(sum, fault, kp int) int {
	return within(asked(sum, fault, kp), 0, full)
}

// wantedSum is the sum that Step is to tell.
func wantedSum(sum, fault, kp, ki int) int {
	a := asked(sum, fault, kp)
	sum = within(sum, 0, all)
	if a > full && fault > 0 || a < 0 && fault < 0 {
		return sum
	}
	return within(sum+product(ki, fault), 0, all)
}

// out runs Out, and holds it against what is wanted.
func out(t *testing.T, sum, fault, kp, want int) {
	t.Helper()
	if got := pi.Out(api.Pi{Sum: sum}, fault, kp); got != want {
		t.Fatalf("Out(%d, %d, %d): %d, want %d", sum, fault, kp, got, want)
	}
}

// step runs Step, and holds it against what is wanted.
func step(t *testing.T, sum, fault, kp, ki, want, opening int) int {
	t.Helper()
	p, got := pi.Step(api.Pi{Sum: sum}, fault, kp, ki)
	if p.Sum != want || got != opening {
		t.Fatalf("Step(%d, %d, %d, %d): %d, %d, want %d, %d", sum, fault, kp, ki, p.Sum, got, want, opening)
	}
	return p.Sum
}

// P27.1: the sum, and kp times the fault, by 65536, rounded down.
func TestOut(t *testing.T) {
	rows := []struct{ sum, fault, kp, want int }{
		{0, 0, 0, 0}, {0, 0, 16, 0}, {part, 0, 16, 1}, {part - 1, 0, 16, 0}, {2*part - 1, 0, 16, 1}, {100 * part, 0, 0, 100}, {100 * part, 0, -9, 100}, {100 * part, 4096, 16, 101}, {100 * part, 4095, 16, 100}, {100 * part, -1, 16, 99}, {100 * part, -4096, 16, 99}, {100 * part, -4097, 16, 98},
		{100*part + 15, 1, 16, 100}, {100*part - 15, 1, 16, 100}, {100*part - 17, 1, 16, 99}, {100 * part, 1, -1, 99}, {100 * part, -1, -1, 100}, {100 * part, part, 1, 101}, {100 * part, -part, 1, 99}, {100 * part, -100 * part, 1, 0}, {100 * part, -99 * part, 1, 1}, {100 * part, 200 * part, 1, 300}, {100 * part, 199 * part, 1, 299},
		{all, 0, 0, 300}, {all - 1, 0, 0, 299}, {all, -1, 1, 299}, {all, 1, 1, 300}, {all, part, 1, 300}, {0, -1, 1, 0}, {0, part, 1, 1}, {0, all, 1, 300}, {0, all - 1, 1, 299}, {0, all + part, 1, 300}, {0, 1, all, 300},
	}
	for _, r := range rows {
		out(t, r.sum, r.fault, r.kp, r.want)
	}
}

// P27.1: a sum counts as from 0 to 300 times 65536, the rest as sat has it.
func TestOutOfNumbersBeyond(t *testing.T) {
	for _, low := range []int{math.MinInt, -api.Top, -all, -part, -1} {
		out(t, low, 0, 0, 0)
		out(t, low, 5*part, 1, 5)
		out(t, low, -1, 1, 0)
	}
	for _, high := range []int{all, all + 1, all + part, 1 << 32, api.Top, math.MaxInt} {
		out(t, high, 0, 0, 300)
		out(t, high, -5*part, 1, 295)
		out(t, high, 1, 1, 300)
	}
	for _, sum := range wild {
		for _, fault := range wild {
			for _, kp := range wild {
				out(t, sum, fault, kp, wantedOut(sum, fault, kp))
			}
		}
	}
}

// P27.2: ki times the fault is summed up, and the opening is that of the sum that
// comes of it.
func TestStep(t *testing.T) {
	rows := []struct{ sum, fault, kp, ki, want, opening int }{
		{0, 0, 0, 0, 0, 0}, {0, 0, 16, 4, 0, 0}, {100 * part, 0, 16, 4, 100 * part, 100}, {100 * part, 10, 16, 4, 100*part + 40, 100}, {100 * part, -10, 16, 4, 100*part - 40, 99}, {100 * part, part, 1, 1, 101 * part, 102}, {100 * part, part, 0, 1, 101 * part, 101}, {100 * part, part, 1, 0, 100 * part, 101}, {100 * part, -part, 1, 1, 99 * part, 98}, {100 * part, part, -1, 1, 101 * part, 100}, {100 * part, part, 1, -1, 99 * part, 100},
		{0, -10, 0, 4, 0, 0}, {20, -10, 0, 4, 0, 0}, {20, -5, 0, 4, 0, 0}, {20, -4, 0, 4, 4, 0}, {all, 10, 0, 4, all, 300}, {all - 20, 10, 0, 4, all, 300}, {all - 20, 5, 0, 4, all, 300}, {all - 20, 4, 0, 4, all - 4, 299},
	}
	for _, r := range rows {
		step(t, r.sum, r.fault, r.kp, r.ki, r.want, r.opening)
	}
}

// P27.2: beyond the whole way nothing is summed up that asks for more, and what
// asks for less is; likewise below none.
func TestStepAtTheEnds(t *testing.T) {
	rows := []struct{ sum, fault, kp, ki, want, opening int }{
		// 300 is not above 300, 301 is.
		{all, part - 1, 1, 1, all, 300}, {all - part, part, 1, 1, all, 300}, {all - part, 2*part - 1, 1, 1, all, 300}, {all - part, 2 * part, 1, 1, all - part, 300}, {all - part, 2*part + 1, 1, 1, all - part, 300}, {0, all + part - 1, 1, 0, 0, 300}, {0, all + part, 1, 1, 0, 300}, {0, all + part - 1, 1, 1, all, 300},
		// 0 is not below 0, -1 is.
		{part, -part, 1, 1, 0, 0}, {part, -part - 1, 1, 1, part, 0}, {part, -part + 1, 1, 1, 1, 0}, {5 * part, -5 * part, 1, 1, 0, 0}, {5 * part, -5*part - 1, 1, 1, 5 * part, 0}, {10, -1, 10, 1, 9, 0}, {9, -1, 10, 1, 9, 0},
		// The opening is beyond, but the fault asks for the other way.
		{5 * part, 9, -part, 7, 5*part + 63, 0}, {all, -9, -part, 7, all - 63, 300}, {all, -9, -part, -7, all, 300}, {5 * part, 9, -part, -7, 5*part - 63, 0},
	}
	for _, r := range rows {
		step(t, r.sum, r.fault, r.kp, r.ki, r.want, r.opening)
	}
}

// P27.2: of numbers beyond, each with each.
func TestStepOfNumbersBeyond(t *testing.T) {
	for _, sum := range wild {
		for _, fault := range wild {
			for _, kp := range []int{math.MinInt, -api.Top, -part, -1, 0, 1, 16, 64, api.Top, math.MaxInt} {
				for _, ki := range []int{math.MinInt, -api.Top, -4, 0, 1, 4, 16, api.Top + 1, math.MaxInt} {
					want := wantedSum(sum, fault, kp, ki)
					step(t, sum, fault, kp, ki, want, wantedOut(want, fault, kp))
				}
			}
		}
	}
}

// P27.1 and P27.2: of any loop and any fault.
func TestAnyLoop(t *testing.T) {
	rnd := rand.New(rand.NewSource(271))
	for range 100000 {
		sum, fault := rnd.Intn(all+2*part)-part, rnd.Intn(2000001)-1000000
		kp, ki := rnd.Intn(70)-2, rnd.Intn(20)-2
		out(t, sum, fault, kp, wantedOut(sum, fault, kp))
		want := wantedSum(sum, fault, kp, ki)
		step(t, sum, fault, kp, ki, want, wantedOut(want, fault, kp))
	}
}

// P27.3: whatever comes, the opening, and the sum, stay in their limits.
func TestTheOpeningNeverLeavesItsLimits(t *testing.T) {
	rnd := rand.New(rand.NewSource(273))
	p := api.Pi{Sum: math.MinInt}
	for range 50000 {
		var opening int
		fault := int(rnd.Uint64()) >> rnd.Intn(64)
		p, opening = pi.Step(p, fault, int(rnd.Uint64())>>rnd.Intn(64), int(rnd.Uint64())>>rnd.Intn(64))
		if p.Sum < 0 || p.Sum > all || opening < 0 || opening > full {
			t.Fatalf("%d: %d, %d", fault, p.Sum, opening)
		}
	}
}

// P27.3: what is too little never opens less than what is less so.
func TestMoreThatIsTooLittleOpensNoLess(t *testing.T) {
	rnd := rand.New(rand.NewSource(274))
	for range 3000 {
		p := api.Pi{Sum: rnd.Intn(all + 1)}
		kp, ki := rnd.Intn(70), rnd.Intn(20)
		was, stepped := -1, -1
		for fault := -1000000; fault <= 1000000; fault += 50000 {
			now := pi.Out(p, fault, kp)
			_, then := pi.Step(p, fault, kp, ki)
			if now < was || then < stepped {
				t.Fatalf("%d, %d, %d, %d: %d behind %d, %d behind %d", p.Sum, fault, kp, ki, now, was, then, stepped)
			}
			was, stepped = now, then
		}
	}
}

// P27.4: while it is as far as it can be, each tick leaves the loop as the first
// one did.
func TestNothingIsSummedUpAtTheEnds(t *testing.T) {
	rnd := rand.New(rand.NewSource(275))
	for range 3000 {
		first, kp, ki := rnd.Intn(all+1), 1+rnd.Intn(64), 1+rnd.Intn(16)
		for _, fault := range []int{(all-first+part)/kp + 1 + rnd.Intn(1000), -first/kp - 1 - rnd.Intn(1000)} {
			opening := 0
			if fault > 0 {
				opening = full
			}
			sum := step(t, first, fault, kp, ki, first, opening)
			for range 50 {
				sum = step(t, sum, fault, kp, ki, first, opening)
			}
			back := -fault / 9
			step(t, sum, back, kp, ki, wantedSum(first, back, kp, ki), wantedOut(wantedSum(first, back, kp, ki), back, kp))
		}
	}
}

// R4: nothing is kept from call to call.
func TestNothingIsKept(t *testing.T) {
	for range 3 {
		step(t, 100*part, part, 1, 1, 101*part, 102)
		out(t, 100*part, part, 1, 101)
	}
}

// The chapter's example: a sum of 100 times 65536, and no fault.
func TestExample(t *testing.T) {
	out(t, 100*part, 0, 16, 100)
}
