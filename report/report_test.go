package report_test

import (
	"math"
	"math/rand"
	"strings"
	"testing"

	"pinchcock/api"
	"pinchcock/hours"
	"pinchcock/mode"
	"pinchcock/report"
	"pinchcock/scenes"
	"pinchcock/screen"
	"pinchcock/session"
)

// names are those of the hazards, rising.
var names = []string{"STREAM", "FREE", "OVER", "UNDER", "LOSS", "EMPTY", "TILT", "DOOR", "BATTERY", "STALL", "SENSOR", "MATH"}

// wanted is what Line is to tell, by the chapter, thing by thing.
func wanted(a, b api.Out, first bool) string {
	text := ""
	line := func(so bool, words string) {
		if so {
			text += hours.Text(b.Tick) + " " + words + "\n"
		}
	}
	line(first || b.Tick == 0, "power "+screen.Volume(b.Volume))
	line(first || a.Mode != b.Mode, "mode "+mode.Name(b.Mode))
	for k, name := range names {
		has, had := b.Latch>>k&1 == 1, a.Latch>>k&1 == 1
		line(has && (first || b.Tick == 0 || !had), "alarm "+name)
	}
	for k, name := range names {
		has, had := b.Latch>>k&1 == 1, a.Latch>>k&1 == 1
		line(had && !has && !first && b.Tick != 0, "over "+name)
	}
	line(!first && b.Tick != 0 && b.Volume/1000 > a.Volume/1000, "volume "+screen.Volume(b.Volume))
	return text
}

// P55.1: lines that are written out.
func TestLines(t *testing.T) {
	for _, r := range []struct {
		name  string
		a, b  api.Out
		first bool
		want  string
	}{
		{"the first one", api.Out{}, api.Out{Mode: 1}, true, "0:00:00.00 power 0.000 mL\n0:00:00.00 mode IDLE\n"},
		{"the first one, of the same mode", api.Out{Mode: 4}, api.Out{Tick: 7, Mode: 4, Volume: 1234}, true, "0:00:00.07 power 1.234 mL\n0:00:00.07 mode PAUSED\n"},
		{"the first one, latched", api.Out{Latch: 128 | 1}, api.Out{Tick: 100, Mode: 7, Latch: 128 | 2}, true, "0:00:01.00 power 0.000 mL\n0:00:01.00 mode FAULT\n0:00:01.00 alarm FREE\n0:00:01.00 alarm DOOR\n"},
		{"nothing", api.Out{Tick: 6, Mode: 3, Volume: 1999}, api.Out{Tick: 7, Mode: 3, Volume: 1999}, false, ""},
		{"nothing that is told", api.Out{Tick: 6, Mode: 3, Open: 5}, api.Out{Tick: 7, Mode: 3, Open: 9, Pos: 1, Notes: 5, Level: 1, Buzzer: 1, Drop: true, Frame: "x"}, false, ""},
		{"another mode", api.Out{Tick: 6, Mode: 3}, api.Out{Tick: 7, Mode: 4}, false, "0:00:00.07 mode PAUSED\n"},
		{"no mode", api.Out{Tick: 6, Mode: 3}, api.Out{Tick: 7, Mode: 8}, false, "0:00:00.07 mode ?\n"},
		{"another number that is no mode", api.Out{Tick: 6, Mode: 9}, api.Out{Tick: 7, Mode: 8}, false, "0:00:00.07 mode ?\n"},
		{"alarms", api.Out{Tick: 6, Mode: 7, Latch: 4}, api.Out{Tick: 7, Mode: 7, Latch: 4 | 1 | 2048}, false, "0:00:00.07 alarm STREAM\n0:00:00.07 alarm MATH\n"},
		{"over", api.Out{Tick: 6, Mode: 7, Latch: 4 | 1 | 2048}, api.Out{Tick: 7, Mode: 7, Latch: 4}, false, "0:00:00.07 over STREAM\n0:00:00.07 over MATH\n"},
		{"all of it", api.Out{Tick: 359999, Mode: 7, Latch: 64 | 16 | 8, Volume: 999}, api.Out{Tick: 360000, Mode: 3, Latch: 32 | 16, Volume: 12345}, false, "1:00:00.00 mode RUNNING\n1:00:00.00 alarm EMPTY\n1:00:00.00 over UNDER\n1:00:00.00 over TILT\n1:00:00.00 volume 12.345 mL\n"},
		{"other bits", api.Out{Tick: 6, Mode: 7, Latch: 1 << 12}, api.Out{Tick: 7, Mode: 7, Latch: 1 << 13}, false, ""},
		{"all bits", api.Out{Tick: 6, Mode: 7, Latch: -1 &^ 256}, api.Out{Tick: 7, Mode: 7, Latch: -1 &^ 512}, false, "0:00:00.07 alarm BATTERY\n0:00:00.07 over STALL\n"},
		{"the power comes", api.Out{Tick: 6, Mode: 7, Latch: 64, Volume: 999}, api.Out{Tick: 0, Mode: 4, Volume: 5000}, false, "0:00:00.00 power 5.000 mL\n0:00:00.00 mode PAUSED\n"},
		{"the power comes, in the same mode", api.Out{Tick: 6, Mode: 4, Volume: 999}, api.Out{Tick: 0, Mode: 4, Volume: 5000}, false, "0:00:00.00 power 5.000 mL\n"},
		{"the power comes, latched", api.Out{Tick: 0, Mode: 7, Latch: 65}, api.Out{Tick: 0, Mode: 7, Latch: 64}, false, "0:00:00.00 power 0.000 mL\n0:00:00.00 alarm TILT\n"},
		{"a millilitre", api.Out{Tick: 6, Volume: 999}, api.Out{Tick: 7, Volume: 1000}, false, "0:00:00.07 volume 1.000 mL\n"},
		{"less than one", api.Out{Tick: 6, Volume: 1000}, api.Out{Tick: 7, Volume: 1999}, false, ""},
		{"less", api.Out{Tick: 6, Volume: 9000}, api.Out{Tick: 7, Volume: 1999}, false, ""},
		{"cut off towards 0", api.Out{Tick: 6, Volume: -999}, api.Out{Tick: 7, Volume: 999}, false, ""},
		{"from below 0", api.Out{Tick: 6, Volume: -1000}, api.Out{Tick: 7, Volume: -1}, false, "0:00:00.07 volume 0.000 mL\n"},
		{"from as far below as can be", api.Out{Tick: 6, Volume: math.MinInt}, api.Out{Tick: 7, Volume: math.MaxInt}, false, "0:00:00.07 volume 99999.999 mL\n"},
		{"a tick below 0", api.Out{Tick: 6, Mode: 1}, api.Out{Tick: -7, Mode: 2, Volume: 1000}, false, "0:00:00.00 mode PRIMING\n0:00:00.00 volume 1.000 mL\n"},
	} {
		if got := report.Line(r.a, r.b, r.first); got != r.want {
			t.Errorf("%s: %q, want %q", r.name, got, r.want)
		}
	}
	for k, name := range names {
		if got, want := report.Line(api.Out{Tick: 1}, api.Out{Tick: 2, Latch: 1 << k}, false), "0:00:00.02 alarm "+name+"\n"; got != want {
			t.Errorf("%q, want %q", got, want)
		}
	}
}

// P55.1: of any two ticks.
func TestAnyLines(t *testing.T) {
	rnd := rand.New(rand.NewSource(55))
	one := func() api.Out {
		return api.Out{Tick: rnd.Intn(4) * rnd.Intn(400000), Mode: rnd.Intn(9), Latch: rnd.Intn(1<<13) & rnd.Intn(1<<13), Volume: rnd.Intn(6000) - 2000, Open: rnd.Intn(3), Drop: rnd.Intn(2) == 0}
	}
	for range 20000 {
		a, b, first := one(), one(), rnd.Intn(4) == 0
		if got, want := report.Line(a, b, first), wanted(a, b, first); got != want {
			t.Fatalf("%+v and %+v, first %v: %q, want %q", a, b, first, got, want)
		}
	}
}

// P55.2 and P55.3: line by line, and the text of more goes on with that of what was
// ahead.
func TestText(t *testing.T) {
	if got := report.Text(nil); got != "" {
		t.Errorf("nothing: %q", got)
	}
	for number := range 6 {
		slots, l := scenes.Make(5500+number, 4000)
		out := session.Run(slots, l)
		want := ""
		for k, o := range out {
			was := api.Out{}
			if k > 0 {
				was = out[k-1]
			}
			want += wanted(was, o, k == 0)
			if k%500 == 0 {
				if got := report.Text(out[:k+1]); got != want {
					t.Fatalf("%d ticks of the scene %d: %q, want %q", k, number, got, want)
				}
			}
		}
		if got := report.Text(out); got != want {
			t.Fatalf("the scene %d: %q, want %q", number, got, want)
		}
	}
}

// P55.4: each alarm that is told is over later, or still there, or was there when
// the power went.
func TestAlarmsAreOver(t *testing.T) {
	alarms := 0
	for number := range 10 {
		slots, l := scenes.Make(5550+number, 6000)
		out := session.Run(slots, l)
		held := map[string]bool{}
		for _, line := range strings.Split(strings.TrimSuffix(report.Text(out), "\n"), "\n") {
			_, words, _ := strings.Cut(line, " ")
			what, name, _ := strings.Cut(words, " ")
			switch what {
			case "power":
				held = map[string]bool{}
			case "alarm":
				alarms++
				if held[name] {
					t.Errorf("the scene %d: %s, again", number, line)
				}
				held[name] = true
			case "over":
				if !held[name] {
					t.Errorf("the scene %d: %s, but it was not there", number, line)
				}
				delete(held, name)
			}
		}
		last := out[len(out)-1].Latch
		for k, name := range names {
			if held[name] != (last>>k&1 == 1) {
				t.Errorf("the scene %d: %s at the end: %v", number, name, held[name])
			}
		}
	}
	if alarms < 30 {
		t.Errorf("%d alarms alone", alarms)
	}
}

// The chapter's example.
func TestExample(t *testing.T) {
	got := report.Text(session.Run([2]string{}, nil))
	if !strings.Contains(got, "0:00:00.00 mode IDLE\n") {
		t.Errorf("%q", got)
	}
}
