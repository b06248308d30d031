package wire

import (
	"math"

	"pinchcock/api"
	"pinchcock/code"
)

// reader reads bytes from the first one on, till something is wrong.
type reader struct {
	rest  string
	wrong bool
}

// step reads a step of a script.
func (r *reader) step() api.Step {
	switch r.number(1) {
	case ticked:
		return api.Step{Raw: r.raw()}
	case cutOff:
		return api.Step{Cut: true, Torn: r.torn()}
	}
	r.wrong = true
	return api.Step{}
}

// raw reads a raw record.
func (r *reader) raw() api.Raw {
	raw := api.Raw{Adc: r.real(), Tilt: r.real(), Battery: r.real(), Encoder: r.real()}
	truths := r.number(1)
	if truths > opened|writes {
		r.wrong = true
	}
	raw.Door, raw.Write = truths&opened != 0, truths&writes != 0
	raw.Key = r.number(1)
	return raw
}

// torn reads the bytes that a power cut leaves.
func (r *reader) torn() string {
	many := r.number(1)
	if many > api.MaxBytes || many > len(r.rest) {
		r.wrong = true
		return ""
	}
	torn := r.rest[:many]
	r.rest = r.rest[many:]
	return torn
}

// real reads a real number. Bits of another kind than the one that is told are
// wrong, as nothing is told in two ways.
func (r *reader) real() float64 {
	switch r.number(1) {
	case api.RealNan:
		return math.NaN()
	case api.RealBelow:
		return math.Inf(-1)
	case api.RealAbove:
		return math.Inf(1)
	case api.RealMinus:
		return math.Copysign(0, -1)
	case api.RealZero:
		return 0
	case api.RealPlain:
		high, low := r.number(half), r.number(half)
		x := math.Float64frombits(uint64(high)<<32 | uint64(low))
		if plain(x) {
			return x
		}
	}
	r.wrong = true
	return 0
}

// number reads a number of so many bytes.
func (r *reader) number(width int) int {
	n, ok := code.Take(r.rest, 0, width)
	if !ok {
		r.wrong = true
		return 0
	}
	r.rest = r.rest[width:]
	return n
}
