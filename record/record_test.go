package record_test

import (
	"math"
	"math/rand"
	"testing"

	"pinchcock/api"
	"pinchcock/record"
)

var (
	nan   = math.NaN()
	minus = math.Copysign(0, -1)
	above = math.Inf(1)
	below = math.Inf(-1)
)

// field is one of the four real numbers: its name, its limit, its mark, and
// where it stands.
type field struct {
	name string
	most int
	mark int
	raw  func(*api.Raw) *float64
	rec  func(*api.Rec) *int
}

// fields are all four.
var fields = []field{
	{"Adc", 4095, 1, func(r *api.Raw) *float64 { return &r.Adc }, func(r *api.Rec) *int { return &r.Adc }},
	{"Tilt", 180, 2, func(r *api.Raw) *float64 { return &r.Tilt }, func(r *api.Rec) *int { return &r.Tilt }},
	{"Battery", 6000, 4, func(r *api.Raw) *float64 { return &r.Battery }, func(r *api.Rec) *int { return &r.Battery }},
	{"Encoder", 300, 8, func(r *api.Raw) *float64 { return &r.Encoder }, func(r *api.Rec) *int { return &r.Encoder }},
}

// wildKeys are no keys: beside the first and the last one, and such as would be
// one without the bits above it.
var wildKeys = []int{
	math.MinInt, -api.Top, -1 << 32, -10, -1, 11, 12, 16, 255, 256, 256 + 3, 1 << 16, 1<<32 + 3, 1<<62 + 10, api.Top, math.MaxInt,
}

// lights are real numbers of each kind, for a field with that limit.
func lights(most int) []float64 {
	top := float64(most)
	l := []float64{
		below, -math.MaxFloat64, -1e300, -float64(api.Top), -4096, -1, -0.5, -math.SmallestNonzeroFloat64, minus,
		0, math.SmallestNonzeroFloat64, 0.5, math.Nextafter(1, 0), 1, 1.5, 2.5, 2.999, top / 2, top - 1, top - 0.5,
		math.Nextafter(top, 0), top, math.Nextafter(top, top+1), top + 0.5, top + 1, 180, 181, 300, 301, 4095, 4096, 6000, 6001,
		65536, float64(api.Top), 1 << 62, 1e300, math.MaxFloat64, above, nan, math.Float64frombits(0xfff0000000000001),
	}
	rnd := rand.New(rand.NewSource(11))
	for range 200 {
		l = append(l, math.Float64frombits(rnd.Uint64()), (rnd.Float64()*1.2-0.1)*top)
	}
	return l
}

// taken is what is made of x, and its mark, if it has one.
func taken(x float64, f field) (int, int) {
	switch {
	case math.IsNaN(x), x < 0:
		return 0, f.mark
	case x > float64(f.most):
		return f.most, f.mark
	}
	return int(x), 0
}

// usual is a raw record that may be, and usualTaken the record that it is.
func usual() api.Raw {
	return api.Raw{Adc: 3000, Tilt: 5, Battery: 3700, Encoder: 120, Door: true, Key: api.KeyPause, Write: true}
}

func usualTaken() api.Rec {
	return api.Rec{Adc: 3000, Tilt: 5, Battery: 3700, Encoder: 120, Door: true, Key: api.KeyPause, Write: true}
}

// random is a raw record with something of everything.
func random(rnd *rand.Rand) api.Raw {
	r := api.Raw{Door: rnd.Intn(2) == 0, Write: rnd.Intn(2) == 0, Key: rnd.Intn(14) - 2}
	if rnd.Intn(4) == 0 {
		r.Key = int(rnd.Uint64())
	}
	for _, f := range fields {
		l := lights(f.most)
		*f.raw(&r) = l[rnd.Intn(len(l))]
	}
	return r
}

// wanted is the record that is to be taken.
func wanted(r api.Raw) api.Rec {
	rec := api.Rec{Door: r.Door, Write: r.Write}
	for _, f := range fields {
		n, mark := taken(*f.raw(&r), f)
		*f.rec(&rec) = n
		rec.Bad += mark
	}
	if r.Key < 0 || r.Key > 10 {
		rec.Bad += 16
	} else {
		rec.Key = r.Key
	}
	return rec
}

// isTaken checks what is taken.
func isTaken(t *testing.T, r api.Raw, want api.Rec) {
	t.Helper()
	if got := record.Take(r); got != want {
		t.Fatalf("Take(%+v): %+v, want %+v", r, got, want)
	}
}

// P11.1: what comes in the ordinary way, and what is wild in all fields.
func TestTake(t *testing.T) {
	isTaken(t, usual(), usualTaken())
	isTaken(t, api.Raw{}, api.Rec{})
	isTaken(t, api.Raw{Adc: 4095, Tilt: 180, Battery: 6000, Encoder: 300, Key: 10}, api.Rec{Adc: 4095, Tilt: 180, Battery: 6000, Encoder: 300, Key: 10})
	isTaken(t, api.Raw{Adc: 4094.9, Tilt: 179.5, Battery: 0.99, Encoder: 1.5, Write: true}, api.Rec{Adc: 4094, Tilt: 179, Encoder: 1, Write: true})
	isTaken(t, api.Raw{Adc: 4095.5, Tilt: 180.5, Battery: 6000.5, Encoder: 300.5, Key: 11, Door: true},
		api.Rec{Adc: 4095, Tilt: 180, Battery: 6000, Encoder: 300, Door: true, Bad: 31})
	isTaken(t, api.Raw{Adc: nan, Tilt: nan, Battery: nan, Encoder: nan, Key: -1}, api.Rec{Bad: 31})
	isTaken(t, api.Raw{Adc: below, Tilt: -1, Battery: -0.5, Encoder: -1e300, Key: math.MinInt}, api.Rec{Bad: 31})
	isTaken(t, api.Raw{Adc: above, Tilt: nan, Battery: 5, Encoder: 301}, api.Rec{Adc: 4095, Battery: 5, Encoder: 300, Bad: 11})
	isTaken(t, api.Raw{Adc: minus, Tilt: minus, Battery: minus, Encoder: minus}, api.Rec{})
}

// P11.1: each field by itself, with its own limit and its own mark.
func TestTakeOfEachField(t *testing.T) {
	for _, f := range fields {
		for _, x := range lights(f.most) {
			r, want := usual(), usualTaken()
			*f.raw(&r) = x
			n, mark := taken(x, f)
			*f.rec(&want), want.Bad = n, mark
			isTaken(t, r, want)
		}
	}
}

// P11.1: each key, and what is none. That no key is pressed is not marked.
func TestTakeOfKeys(t *testing.T) {
	for key := 0; key <= 10; key++ {
		r, want := usual(), usualTaken()
		r.Key, want.Key = key, key
		isTaken(t, r, want)
	}
	for _, key := range wildKeys {
		r, want := usual(), usualTaken()
		r.Key, want.Key, want.Bad = key, 0, 16
		isTaken(t, r, want)
	}
}

// P11.1: the door, and whether the flash writes well, are as they are.
func TestTakeOfTruths(t *testing.T) {
	for i := range 4 {
		r, want := usual(), usualTaken()
		r.Door, r.Write = i&1 != 0, i&2 != 0
		want.Door, want.Write = r.Door, r.Write
		isTaken(t, r, want)
		wild := api.Raw{Adc: nan, Tilt: above, Battery: below, Encoder: nan, Door: r.Door, Key: 99, Write: r.Write}
		isTaken(t, wild, api.Rec{Tilt: 180, Door: r.Door, Write: r.Write, Bad: 31})
	}
}

// P11.2: these numbers, also such as may not be, and no others.
func TestRaw(t *testing.T) {
	rows := []struct {
		rec  api.Rec
		want api.Raw
	}{
		{api.Rec{}, api.Raw{}},
		{usualTaken(), usual()},
		{api.Rec{Adc: 4095, Tilt: 180, Battery: 6000, Encoder: 300, Key: 10, Bad: 31}, api.Raw{Adc: 4095, Tilt: 180, Battery: 6000, Encoder: 300, Key: 10}},
		{api.Rec{Adc: 1, Tilt: 2, Battery: 3, Encoder: 4, Door: true, Key: 5, Bad: 1}, api.Raw{Adc: 1, Tilt: 2, Battery: 3, Encoder: 4, Door: true, Key: 5}},
		{api.Rec{Adc: -1, Tilt: 181, Battery: -7000, Encoder: 301, Key: -2, Write: true}, api.Raw{Adc: -1, Tilt: 181, Battery: -7000, Encoder: 301, Key: -2, Write: true}},
		{api.Rec{Adc: api.Top, Tilt: -api.Top, Key: math.MaxInt}, api.Raw{Adc: 1 << 53, Tilt: -(1 << 53), Key: math.MaxInt}},
		{api.Rec{Battery: math.MinInt, Encoder: math.MaxInt, Key: math.MinInt}, api.Raw{Battery: -(1 << 63), Encoder: 1 << 63, Key: math.MinInt}},
	}
	for _, r := range rows {
		if got := record.Raw(r.rec); got != r.want {
			t.Errorf("Raw(%+v): %+v, want %+v", r.rec, got, r.want)
		}
	}
	if got := record.Raw(api.Rec{}); math.Signbit(got.Adc) || math.Signbit(got.Tilt) || math.Signbit(got.Battery) || math.Signbit(got.Encoder) {
		t.Errorf("0 is %v", got)
	}
}

// P11.3: each number by itself, to its own limit.
func TestClean(t *testing.T) {
	numbers := append([]field{
		{"Key", 10, 0, nil, func(r *api.Rec) *int { return &r.Key }},
		{"Bad", 31, 0, nil, func(r *api.Rec) *int { return &r.Bad }},
	}, fields...)
	for _, start := range []api.Rec{{}, usualTaken(), {Adc: 4095, Tilt: 180, Battery: 6000, Encoder: 300, Door: true, Key: 10, Bad: 31}} {
		if !record.Clean(start) {
			t.Errorf("%+v may not be", start)
		}
		for _, f := range numbers {
			rec := start
			for n := range f.most + 1 {
				if *f.rec(&rec) = n; !record.Clean(rec) {
					t.Fatalf("%s: %+v may not be", f.name, rec)
				}
			}
			for _, n := range []int{math.MinInt, -api.Top, -1 << 32, -2, -1, f.most + 1, f.most + 2, 6001, 1 << 16, 1 << 32, api.Top, math.MaxInt} {
				if *f.rec(&rec) = n; record.Clean(rec) {
					t.Errorf("%s: %+v may be", f.name, rec)
				}
			}
		}
	}
}

// P11.4: whatever comes, what is taken may be.
func TestWhateverComesMayBe(t *testing.T) {
	rnd := rand.New(rand.NewSource(114))
	for range 5000 {
		r := random(rnd)
		if got := record.Take(r); !record.Clean(got) || got != wanted(r) {
			t.Fatalf("Take(%+v): %+v, want %+v", r, got, wanted(r))
		}
	}
}

// P11.5: what is wild in one field changes no other one, but for its mark;
// whatever the others are.
func TestWildInOneField(t *testing.T) {
	rnd := rand.New(rand.NewSource(115))
	for range 400 {
		start := random(rnd)
		for _, f := range fields {
			for _, x := range []float64{nan, above, below, -1, float64(f.most) + 1} {
				calm, wild := start, start
				*f.raw(&calm), *f.raw(&wild) = 7, x
				was, is := record.Take(calm), record.Take(wild)
				if is.Bad != was.Bad+f.mark {
					t.Fatalf("%s of %+v: marks %d, was %d", f.name, wild, is.Bad, was.Bad)
				}
				*f.rec(&is), is.Bad = *f.rec(&was), was.Bad
				if is != was {
					t.Fatalf("%s of %+v: %+v, was %+v", f.name, wild, is, was)
				}
			}
		}
		calm, wild := start, start
		calm.Key, wild.Key = api.KeyUp, wildKeys[rnd.Intn(len(wildKeys))]
		was, is := record.Take(calm), record.Take(wild)
		if was.Key, was.Bad = 0, was.Bad+16; is != was {
			t.Fatalf("key of %+v: %+v, want %+v", wild, is, was)
		}
	}
}

// P11.6: what may be is taken as it was; marks are not of the raw record, so
// there are none.
func TestTakenAsItWas(t *testing.T) {
	rnd := rand.New(rand.NewSource(116))
	for range 5000 {
		rec := api.Rec{
			Adc: rnd.Intn(4096), Tilt: rnd.Intn(181), Battery: rnd.Intn(6001), Encoder: rnd.Intn(301),
			Door: rnd.Intn(2) == 0, Key: rnd.Intn(11), Write: rnd.Intn(2) == 0,
		}
		isTaken(t, record.Raw(rec), rec)
		marked := rec
		marked.Bad = rnd.Intn(32)
		isTaken(t, record.Raw(marked), rec)
	}
	for _, f := range fields {
		for n := range f.most + 1 {
			rec := usualTaken()
			*f.rec(&rec) = n
			isTaken(t, record.Raw(rec), rec)
		}
	}
}

// R4: nothing is kept from call to call.
func TestNothingIsKept(t *testing.T) {
	record.Take(api.Raw{Adc: nan, Tilt: above, Battery: below, Encoder: nan, Door: true, Key: 99, Write: true})
	isTaken(t, api.Raw{}, api.Rec{})
	isTaken(t, usual(), usualTaken())
}

// The chapter's example.
func TestExample(t *testing.T) {
	r, want := usual(), usualTaken()
	r.Adc, want.Adc, want.Bad = nan, 0, api.BadAdc
	isTaken(t, r, want)
}
