package trend_test

import (
	"math"
	"math/rand"
	"slices"
	"testing"

	"pinchcock/api"
	"pinchcock/scenes"
	"pinchcock/session"
	"pinchcock/trend"
)

// place is where a tick belongs: to a time with power, and a minute.
type place struct{ power, minute int }

// places are those of ticks, by the chapter.
func places(out []api.Out) []place {
	l := make([]place, len(out))
	for k, o := range out {
		for _, ahead := range out[min(1, k) : k+1] {
			if k > 0 && ahead.Tick == 0 {
				l[k].power++
			}
		}
		if o.Tick > 0 {
			l[k].minute = o.Tick / 6000
		}
	}
	return l
}

// wanted is what Of is to tell, by the chapter: each bucket by itself.
func wanted(out []api.Out, at []place) []api.Bucket {
	var l []api.Bucket
	for k, p := range at {
		if slices.Index(at, p) < k {
			continue
		}
		b := api.Bucket{Power: p.power, Minute: p.minute, Least: out[k].Open, Most: out[k].Open}
		for i, q := range at {
			if q != p {
				continue
			}
			b.Ticks++
			if out[i].Drop {
				b.Drops++
			}
			if out[i].Open < b.Least {
				b.Least = out[i].Open
			}
			if out[i].Open > b.Most {
				b.Most = out[i].Open
			}
			b.Volume = out[i].Volume
		}
		l = append(l, b)
	}
	return l
}

// hold holds Of against what is wanted.
func hold(t *testing.T, out []api.Out) []api.Bucket {
	t.Helper()
	got := trend.Of(out)
	if want := wanted(out, places(out)); !slices.Equal(got, want) {
		t.Fatalf("Of(%+v): %+v, want %+v", out, got, want)
	}
	return got
}

// P54.1: buckets that are written out.
func TestBuckets(t *testing.T) {
	tick := func(n, open, volume int, drop bool) api.Out {
		return api.Out{Tick: n, Open: open, Volume: volume, Drop: drop}
	}
	for name, r := range map[string]struct {
		out  []api.Out
		want []api.Bucket
	}{
		"nothing":         {nil, nil},
		"one":             {[]api.Out{tick(0, 5, 7, true)}, []api.Bucket{{Ticks: 1, Drops: 1, Least: 5, Most: 5, Volume: 7}}},
		"one, later":      {[]api.Out{tick(6000, 5, 7, false)}, []api.Bucket{{Minute: 1, Ticks: 1, Least: 5, Most: 5, Volume: 7}}},
		"below 0":         {[]api.Out{tick(-6001, 5, 7, false), tick(math.MinInt, -5, 8, true)}, []api.Bucket{{Ticks: 2, Drops: 1, Least: -5, Most: 5, Volume: 8}}},
		"the end of one":  {[]api.Out{tick(5999, 9, 7, true), tick(6000, 3, 8, true), tick(6001, 4, 6, true)}, []api.Bucket{{Ticks: 1, Drops: 1, Least: 9, Most: 9, Volume: 7}, {Minute: 1, Ticks: 2, Drops: 2, Least: 3, Most: 4, Volume: 6}}},
		"a cut":           {[]api.Out{tick(0, 1, 1, false), tick(1, 2, 2, false), tick(0, 3, 3, false)}, []api.Bucket{{Ticks: 2, Least: 1, Most: 2, Volume: 2}, {Power: 1, Ticks: 1, Least: 3, Most: 3, Volume: 3}}},
		"cuts alone":      {[]api.Out{tick(0, 1, 1, false), tick(0, 2, 2, false), tick(0, 3, 3, true)}, []api.Bucket{{Ticks: 1, Least: 1, Most: 1, Volume: 1}, {Power: 1, Ticks: 1, Least: 2, Most: 2, Volume: 2}, {Power: 2, Ticks: 1, Drops: 1, Least: 3, Most: 3, Volume: 3}}},
		"to and fro":      {[]api.Out{tick(6000, 1, 1, false), tick(1, 2, 2, false), tick(6001, 3, 3, true)}, []api.Bucket{{Minute: 1, Ticks: 2, Drops: 1, Least: 1, Most: 3, Volume: 3}, {Ticks: 1, Least: 2, Most: 2, Volume: 2}}},
		"as late as ever": {[]api.Out{tick(math.MaxInt, math.MaxInt, math.MinInt, false), tick(math.MaxInt, math.MinInt, 5, false)}, []api.Bucket{{Minute: math.MaxInt / 6000, Ticks: 2, Least: math.MinInt, Most: math.MaxInt, Volume: 5}}},
	} {
		if got := hold(t, r.out); !slices.Equal(got, r.want) {
			t.Errorf("%s: %+v, want %+v", name, got, r.want)
		}
	}
}

// P54.1: whatever was told, in whatever order.
func TestAnyOrder(t *testing.T) {
	rnd := rand.New(rand.NewSource(54))
	for range 3000 {
		out := make([]api.Out, rnd.Intn(60))
		for k := range out {
			out[k] = api.Out{Tick: rnd.Intn(30)*1500 - 3000, Open: rnd.Intn(9) - 4, Volume: rnd.Intn(99), Drop: rnd.Intn(2) == 0}
		}
		hold(t, out)
	}
}

// P54.1, P54.3 and P54.4: what controllers tell: all ticks and drops are there,
// each once, and minutes rise.
func TestWhateverWasTold(t *testing.T) {
	for number := range 8 {
		slots, l := scenes.Make(5400+number, 20000)
		out := session.Run(slots, l)
		drops := 0
		for _, o := range out {
			if o.Drop {
				drops++
			}
		}
		got := trend.Of(out)
		if a, b := trend.Sum(got); a != len(out) || b != drops {
			t.Errorf("%d ticks and %d drops, want %d and %d", a, b, len(out), drops)
		}
		for k := 1; k < len(got); k++ {
			a, b := got[k-1], got[k]
			if a.Power > b.Power || a.Power == b.Power && a.Minute >= b.Minute || a.Power+1 < b.Power {
				t.Errorf("%+v behind %+v", b, a)
			}
		}
		hold(t, out[:3000])
	}
}

// P54.2: the sums stop at the limits, one behind the other, and count what is
// below 0.
func TestSum(t *testing.T) {
	const top = 1 << 53
	for _, r := range []struct {
		l            []api.Bucket
		ticks, drops int
	}{
		{nil, 0, 0},
		{[]api.Bucket{{Ticks: 5, Drops: 2, Least: 9, Most: 9, Volume: 9}, {Ticks: 7}}, 12, 2},
		{[]api.Bucket{{Ticks: -5, Drops: -2}, {Ticks: 1, Drops: 1}}, -4, -1},
		{[]api.Bucket{{Ticks: top, Drops: -top}, {Ticks: 1, Drops: -1}, {Ticks: -5, Drops: 5}}, top - 5, 5 - top},
		{[]api.Bucket{{Ticks: math.MaxInt, Drops: math.MinInt}, {Ticks: math.MaxInt, Drops: math.MinInt}}, top, -top},
		{[]api.Bucket{{Ticks: math.MinInt, Drops: math.MaxInt}, {Ticks: math.MaxInt, Drops: math.MinInt}}, 0, 0},
	} {
		if ticks, drops := trend.Sum(r.l); ticks != r.ticks || drops != r.drops {
			t.Errorf("Sum(%+v): %d and %d, want %d and %d", r.l, ticks, drops, r.ticks, r.drops)
		}
	}
}

// R3 and R4: what is handed in stays, and what is told is the same again.
func TestItIsTheSameAgain(t *testing.T) {
	out := make([]api.Out, 500)
	for k := range out {
		out[k] = api.Out{Tick: 6000*((k*37)%100) + 1, Open: k}
	}
	kept := slices.Clone(out)
	first := trend.Of(out)
	for range 20 {
		if !slices.Equal(trend.Of(out), first) {
			t.Fatal("another order")
		}
	}
	if len(first) != 100 || !slices.Equal(out, kept) {
		t.Errorf("%d buckets", len(first))
	}
}

// The chapter's example.
func TestExample(t *testing.T) {
	out := make([]api.Out, 6001)
	for k := range out {
		out[k].Tick = k
	}
	if got := trend.Of(out); len(got) != 2 || got[0].Ticks != 6000 || got[1].Ticks != 1 {
		t.Errorf("%+v", got)
	}
}
