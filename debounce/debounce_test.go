package debounce_test

import (
	"math"
	"math/rand"
	"testing"

	"pinchcock/api"
	"pinchcock/debounce"
)

// at is a truth with its run.
func at(on bool, run int) api.Steady {
	return api.Steady{On: on, Run: run}
}

// row is what Step is given, and what is wanted.
type row struct {
	s    api.Steady
	on   bool
	want api.Steady
}

// runs runs the rows.
func runs(t *testing.T, rows []row) {
	t.Helper()
	for _, r := range rows {
		if got := debounce.Step(r.s, r.on); got != r.want {
			t.Errorf("Step(%+v, %v): %+v, want %+v", r.s, r.on, got, r.want)
		}
	}
}

// all is each row of truths that is so long.
func all(length int) [][]bool {
	rows := make([][]bool, 0, 1<<length)
	for bits := range 1 << length {
		told := make([]bool, length)
		for i := range told {
			told[i] = bits>>i&1 != 0
		}
		rows = append(rows, told)
	}
	return rows
}

// after is the truth behind all that was told.
func after(s api.Steady, told []bool) api.Steady {
	for _, on := range told {
		s = debounce.Step(s, on)
	}
	return s
}

// P18.1: the first other one is counted, the second one turns it; what it is
// counts from the beginning again.
func TestStep(t *testing.T) {
	for _, is := range []bool{false, true} {
		runs(t, []row{
			{at(is, 0), is, at(is, 0)}, {at(is, 1), is, at(is, 0)}, {at(is, 2), is, at(is, 0)},
			{at(is, 0), !is, at(is, 1)}, {at(is, 1), !is, at(!is, 0)}, {at(is, 2), !is, at(!is, 0)},
		})
	}
}

// P18.1: a run counts as from 0 to 2.
func TestRunsBeyond(t *testing.T) {
	for _, is := range []bool{false, true} {
		for _, low := range []int{math.MinInt, math.MinInt + 1, -api.Top, -1 << 32, -3, -2, -1} {
			runs(t, []row{{at(is, low), is, at(is, 0)}, {at(is, low), !is, at(is, 1)}})
		}
		for _, high := range []int{3, 4, 255, 256, 1 << 32, api.MaxTick, api.Top, math.MaxInt - 1, math.MaxInt} {
			runs(t, []row{{at(is, high), is, at(is, 0)}, {at(is, high), !is, at(!is, 0)}})
		}
	}
}

// P18.2: it is what was told last twice in a row, whatever was told; ahead of
// that what it was at first.
func TestWhatWasToldTwice(t *testing.T) {
	for _, first := range []bool{false, true} {
		for length := 0; length <= 10; length++ {
			for _, told := range all(length) {
				want := first
				for i := 1; i < len(told); i++ {
					if told[i] == told[i-1] {
						want = told[i]
					}
				}
				if got := after(at(first, 0), told); got.On != want {
					t.Fatalf("%v, and then %v: %+v", first, told, got)
				}
			}
		}
	}
}

// P18.2: also in a long row that goes this way and that.
func TestLongRow(t *testing.T) {
	rnd := rand.New(rand.NewSource(182))
	s, last, twice := at(false, 0), false, false
	for i := range 20000 {
		on := rnd.Intn(3) == 0
		if i > 0 && on == last {
			twice = on
		}
		s, last = debounce.Step(s, on), on
		if s.On != twice || s.Run < 0 || s.Run > 1 {
			t.Fatalf("%+v in tick %d, want %v", s, i, twice)
		}
	}
}

// P18.3: what is told but once between others changes nothing: what comes behind
// is as if it had not been told.
func TestToldButOnce(t *testing.T) {
	for _, is := range []bool{false, true} {
		for many := range 50 {
			s := at(is, 0)
			for range many {
				s = after(s, []bool{!is, is})
				if s != at(is, 0) {
					t.Fatalf("%d times told but once: %+v", many, s)
				}
			}
			runs(t, []row{{s, !is, at(is, 1)}, {debounce.Step(s, !is), !is, at(!is, 0)}})
		}
	}
}

// R4: nothing is kept from call to call.
func TestNothingIsKept(t *testing.T) {
	for range 5 {
		runs(t, []row{{at(false, 0), true, at(false, 1)}, {at(true, 0), false, at(true, 1)}})
	}
}

// The chapter's example: off, then on, on.
func TestExample(t *testing.T) {
	s := debounce.Step(api.Steady{}, true)
	if s.On {
		t.Errorf("it is on with the first one")
	}
	if s = debounce.Step(s, true); s != at(true, 0) {
		t.Errorf("with the second one: %+v", s)
	}
}
