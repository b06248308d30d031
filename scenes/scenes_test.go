package scenes_test

import (
	"math"
	"testing"

	"pinchcock/api"
	"pinchcock/scenes"
	"pinchcock/session"
)

// same tells whether two scripts are the same, bit by bit: what is no number is
// the same as itself here.
func same(a, b []api.Step) bool {
	if len(a) != len(b) {
		return false
	}
	for k := range a {
		x, y := a[k], b[k]
		for _, pair := range [][2]*float64{{&x.Raw.Adc, &y.Raw.Adc}, {&x.Raw.Tilt, &y.Raw.Tilt}, {&x.Raw.Battery, &y.Raw.Battery}, {&x.Raw.Encoder, &y.Raw.Encoder}} {
			if math.Float64bits(*pair[0]) != math.Float64bits(*pair[1]) {
				return false
			}
			*pair[0], *pair[1] = 0, 0
		}
		if x != y {
			return false
		}
	}
	return true
}

// A scene hangs on its number alone, and a longer one goes on with a shorter one.
func TestASceneIsTheSameAgain(t *testing.T) {
	slots, l := scenes.Make(7, 3000)
	again, long := scenes.Make(7, 4000)
	if slots != again || !same(l, long[:3000]) {
		t.Error("the scene 7 is another one")
	}
	if _, other := scenes.Make(8, 3000); same(l, other) {
		t.Error("the scenes 7 and 8 are the same")
	}
	if _, none := scenes.Make(7, 0); len(none) != 0 {
		t.Errorf("no steps: %v", none)
	}
}

// Some scenes together bring each mode, most hazards, each note, drops and cuts:
// else the tests that rest upon them would hold little.
func TestWhatScenesBring(t *testing.T) {
	modes, hazards, notes, drops, cuts := map[int]int{}, 0, 0, 0, 0
	for number := range 20 {
		slots, l := scenes.Make(number, 8000)
		for _, x := range l {
			if x.Cut {
				cuts++
			}
		}
		for _, o := range session.Run(slots, l) {
			modes[o.Mode]++
			hazards, notes = hazards|o.Latch, notes|o.Notes
			if o.Drop {
				drops++
			}
		}
	}
	for mode := api.ModeIdle; mode <= api.ModeFault; mode++ {
		if modes[mode] < 500 {
			t.Errorf("the mode %d: %d ticks", mode, modes[mode])
		}
	}
	most := api.AllHz &^ (api.HzFree | api.HzEmpty)
	if hazards&most != most || notes != 15 || drops < 500 || cuts < 30 {
		t.Errorf("hazards %b, notes %b, %d drops, %d cuts", hazards, notes, drops, cuts)
	}
}
