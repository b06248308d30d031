package compare_test

import (
	"math"
	"math/rand"
	"testing"

	"pinchcock/api"
	"pinchcock/compare"
)

// row is what Shaded is given, and what is wanted.
type row struct {
	level, adc int
	was, want  bool
}

// runs runs the rows.
func runs(t *testing.T, rows []row) {
	t.Helper()
	for _, r := range rows {
		if got := compare.Shaded(r.level, r.adc, r.was); got != r.want {
			t.Fatalf("Shaded(%d, %d, %v): %v, want %v", r.level, r.adc, r.was, got, r.want)
		}
	}
}

// wanted is what is to be told, when it is so much darker.
func wanted(darker int, was bool) bool {
	if was {
		return darker > 200
	}
	return darker >= 400
}

// counted is n as sat.Sub has it.
func counted(n int) int {
	return min(max(n, -api.Top), api.Top)
}

// numbers are those at each limit, those beside it, and beyond it.
func numbers() []int {
	l := []int{math.MinInt, math.MinInt + 1, math.MinInt + 400, math.MaxInt - 400, math.MaxInt - 1, math.MaxInt, -1 << 62, 1 << 62, 1 << 32, 1<<32 + 3000}
	for _, edge := range []int{-api.Top, -400, -200, 0, 200, 400, 2600, 3000, 4095, api.Top} {
		for _, off := range []int{-401, -400, -399, -201, -200, -199, -1, 0, 1, 199, 200, 201, 399, 400, 401} {
			l = append(l, edge+off)
		}
	}
	return l
}

// P17.1: from 400 on it is, up to 200 it is not, and between them it is as it
// was.
func TestShaded(t *testing.T) {
	runs(t, []row{
		{3000, 3000, false, false}, {3000, 3000, true, false}, {3000, 2801, true, false}, {3000, 2800, true, false}, {3000, 2800, false, false},
		{3000, 2799, true, true}, {3000, 2799, false, false}, {3000, 2700, true, true}, {3000, 2700, false, false},
		{3000, 2601, true, true}, {3000, 2601, false, false}, {3000, 2600, true, true}, {3000, 2600, false, true}, {3000, 2599, false, true},
		{3000, 0, false, true}, {3000, 0, true, true}, {3000, 4095, true, false}, {3000, 4095, false, false},
		{0, 0, true, false}, {0, 4095, true, false}, {4095, 0, false, true}, {400, 0, false, true}, {399, 0, false, false}, {399, 0, true, true},
		{201, 0, true, true}, {200, 0, true, false}, {0, 0, false, false}, {4095, 4095, true, false}, {4095, 3695, false, true}, {4095, 3895, true, false},
	})
}

// P17.1: at each level and each light how much darker it is tells it.
func TestShadedOfAllLights(t *testing.T) {
	for level := 0; level <= 4095; level += 5 {
		for adc := range 4096 {
			runs(t, []row{{level, adc, false, wanted(level-adc, false)}, {level, adc, true, wanted(level-adc, true)}})
		}
	}
}

// P17.1: levels and lights that may not be are held against each other as
// sat.Sub has them: it is of no matter where 0 is, and beyond Top there is
// nothing.
func TestShadedBeyond(t *testing.T) {
	runs(t, []row{
		{0, -400, false, true}, {0, -399, false, false}, {0, -201, true, true}, {0, -200, true, false}, {-3000, -3400, false, true}, {-3000, -3200, true, false},
		{10000, 9600, false, true}, {10000, 9800, true, false}, {1<<32 + 400, 0, false, true}, {1 << 32, 1<<32 - 400, false, true}, {0, 1 << 32, true, false},
		{api.Top, api.Top - 400, false, true}, {api.Top + 400, api.Top, true, false}, {api.Top + 400, api.Top - 399, true, true}, {api.Top + 400, api.Top - 399, false, false},
		{-api.Top, -api.Top - 400, true, false}, {-api.Top + 400, math.MinInt, false, true}, {-api.Top + 399, math.MinInt, false, false},
		{math.MaxInt, math.MinInt, false, true}, {math.MinInt, math.MaxInt, true, false}, {math.MaxInt, math.MaxInt, true, false}, {math.MinInt, math.MinInt, true, false},
		{math.MaxInt, math.MaxInt - 400, true, false}, {math.MinInt, 0, true, false}, {0, math.MinInt, false, true}, {0, math.MaxInt, true, false}, {math.MaxInt, 0, false, true},
	})
	for _, level := range numbers() {
		for _, adc := range numbers() {
			darker := counted(level) - counted(adc)
			runs(t, []row{{level, adc, false, wanted(darker, false)}, {level, adc, true, wanted(darker, true)}})
		}
	}
}

// P17.2: darker is never clearer: neither by a darker light, nor by a brighter
// level, nor by having been shaded.
func TestDarkerIsNeverClearer(t *testing.T) {
	for level := 0; level <= 4095; level += 35 {
		for adc := 1; adc <= 4095; adc++ {
			for _, was := range []bool{false, true} {
				if compare.Shaded(level, adc, was) && !(compare.Shaded(level, adc-1, was) && compare.Shaded(level+1, adc, was) && compare.Shaded(level, adc, true)) {
					t.Fatalf("at the level %d and the light %d it is shaded, and not where it is darker", level, adc)
				}
			}
		}
	}
}

// P17.2: between both limits nothing changes, and at them it does.
func TestBetweenTheLimits(t *testing.T) {
	for level := 400; level <= 4095; level++ {
		for darker := 201; darker <= 399; darker++ {
			runs(t, []row{{level, level - darker, false, false}, {level, level - darker, true, true}})
		}
		runs(t, []row{{level, level - 200, true, false}, {level, level - 400, false, true}})
	}
}

// turns is how often it turns at these lights.
func turns(level int, lights []int, was bool) int {
	count := 0
	for _, adc := range lights {
		if is := compare.Shaded(level, adc, was); is != was {
			was, count = is, count+1
		}
	}
	return count
}

// P17.3: light that moves by less than 200 turns it once at the most; by 200 it
// may turn it each time.
func TestLightThatMovesLittle(t *testing.T) {
	rnd := rand.New(rand.NewSource(173))
	for range 4000 {
		level, darkest := rnd.Intn(4096), rnd.Intn(4096)
		lights := make([]int, 40)
		for i := range lights {
			lights[i] = darkest + rnd.Intn(200)
			if rnd.Intn(2) == 0 {
				lights[i] = darkest + 199*rnd.Intn(2)
			}
		}
		for _, was := range []bool{false, true} {
			if n := turns(level, lights, was); n > 1 {
				t.Fatalf("at the level %d it turns %d times: %v", level, n, lights)
			}
		}
	}
	if n := turns(3000, []int{2600, 2800, 2600, 2800}, false); n != 4 {
		t.Errorf("from limit to limit it turns %d times", n)
	}
}

// R4: nothing is kept from call to call.
func TestNothingIsKept(t *testing.T) {
	for range 3 {
		runs(t, []row{{3000, 2600, false, true}, {3000, 2700, false, false}, {3000, 2800, true, false}, {3000, 2700, true, true}})
	}
}

// The chapter's example.
func TestExample(t *testing.T) {
	runs(t, []row{{3000, 2600, false, true}, {3000, 2700, true, true}})
}
