package holds

import (
	"pinchcock/api"
	"pinchcock/formula"
)

// meaning is what a formula is: each kind of it has a type.
type meaning interface {
	// parts are the formulas that it needs.
	parts() []meaning
}

// none, one and two are how many formulas are needed.
type (
	none struct{}
	one  struct{ a meaning }
	two  struct{ a, b meaning }
)

// The kinds of formulas.
type (
	whole struct{ none }
	atom  struct {
		none
		what, least int
	}
	hazard struct {
		none
		bit int
	}
	not    struct{ one }
	both   struct{ two }
	either struct{ two }
	once   struct {
		one
		back int
	}
	always struct {
		one
		back int
	}
	since struct{ two }
)

func (none) parts() []meaning  { return nil }
func (n one) parts() []meaning { return []meaning{n.a} }
func (n two) parts() []meaning { return []meaning{n.a, n.b} }

// meant tells what a formula that is right is.
func meant(l []api.Term) meaning {
	var needed []meaning
	for _, part := range formula.Parts(l) {
		needed = append(needed, meant(part))
	}
	x := l[len(l)-1]
	switch len(needed) {
	case 1:
		return unary(x, one{needed[0]})
	case 2:
		return binary(x.Op, two{needed[0], needed[1]})
	}
	return alone(x)
}

// alone tells what a part is that needs no formula.
func alone(x api.Term) meaning {
	switch {
	case x.Op == api.OpTrue:
		return whole{}
	case x.A == api.AskHazard:
		return hazard{bit: x.B}
	}
	return atom{what: x.A, least: x.B}
}

// unary tells what a part is that needs one formula.
func unary(x api.Term, needed one) meaning {
	switch x.Op {
	case api.OpOnce:
		return once{needed, x.A}
	case api.OpAlways:
		return always{needed, x.A}
	}
	return not{needed}
}

// binary tells what a part is that needs two formulas.
func binary(op int, needed two) meaning {
	switch op {
	case api.OpAnd:
		return both{needed}
	case api.OpOr:
		return either{needed}
	}
	return since{needed}
}
