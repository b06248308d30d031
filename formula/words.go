package formula

import (
	"errors"
	"strconv"
	"strings"

	"pinchcock/api"
)

const (
	// once, always and hazard are words that a number stands behind, and atLeast
	// stands between what is asked, and a number.
	once    = "once:"
	always  = "always:"
	hazard  = "hazard:"
	atLeast = ">="
)

// asked are the words of what is asked, from AskMode on.
var asked = [...]string{"mode", "latch", "notes", "level", "buzzer", "open", "pos", "volume", "drop", "tick"}

// What can be wrong with a text, when all its words are some.
var (
	errMany  = errors.New("more parts than may be")
	errParts = errors.New("parts that are no formula")
)

// noWord is an error: a piece of a text that is no word.
type noWord struct {
	piece string
}

// Error tells what is wrong.
func (e noWord) Error() string {
	return "no word: " + e.piece
}

// parse tells the formula that a text tells, or what is wrong.
func parse(s string) ([]api.Term, error) {
	var l []api.Term
	for piece := range strings.SplitSeq(s, " ") {
		x := term(piece)
		if !may(x) || word(x) != piece {
			return nil, noWord{piece}
		}
		if len(l) == api.MaxTerms {
			return nil, errMany
		}
		l = append(l, x)
	}
	if !Right(l) {
		return nil, errParts
	}
	return l, nil
}

// number tells the number of what is wrong with a text.
func number(err error) api.Errno {
	var piece noWord
	switch {
	case err == nil:
		return api.OK
	case errors.As(err, &piece):
		return api.ErrForm
	case errors.Is(err, errMany):
		return api.ErrSize
	}
	return api.ErrArg
}

// word tells the word of a part that may be.
func word(x api.Term) string {
	switch x.Op {
	case api.OpNot:
		return "not"
	case api.OpAnd:
		return "and"
	case api.OpOr:
		return "or"
	case api.OpSince:
		return "since"
	case api.OpOnce:
		return once + strconv.Itoa(x.A)
	case api.OpAlways:
		return always + strconv.Itoa(x.A)
	case api.OpAtom:
		return atom(x.A, x.B)
	}
	return "true"
}

// atom tells the word of what is asked.
func atom(what, least int) string {
	if what == api.AskHazard {
		return hazard + strconv.Itoa(least)
	}
	return asked[what-api.AskMode] + atLeast + strconv.Itoa(least)
}

// term tells the part of which a piece is the word; of what is no word any part,
// as its word is another one, or none that may be.
func term(piece string) api.Term {
	switch piece {
	case "true":
		return api.Term{Op: api.OpTrue}
	case "not":
		return api.Term{Op: api.OpNot}
	case "and":
		return api.Term{Op: api.OpAnd}
	case "or":
		return api.Term{Op: api.OpOr}
	case "since":
		return api.Term{Op: api.OpSince}
	}
	if digits, ok := strings.CutPrefix(piece, once); ok {
		return api.Term{Op: api.OpOnce, A: count(digits)}
	}
	if digits, ok := strings.CutPrefix(piece, always); ok {
		return api.Term{Op: api.OpAlways, A: count(digits)}
	}
	if digits, ok := strings.CutPrefix(piece, hazard); ok {
		return api.Term{Op: api.OpAtom, A: api.AskHazard, B: count(digits)}
	}
	name, digits, _ := strings.Cut(piece, atLeast)
	return api.Term{Op: api.OpAtom, A: asking(name), B: count(digits)}
}

// asking tells what a word asks; of what is no word nothing that may be asked.
func asking(name string) int {
	for k, known := range asked {
		if name == known {
			return api.AskMode + k
		}
	}
	return 0
}

// count tells the number of some digits; of what is none one that may not be.
func count(digits string) int {
	n, err := strconv.Atoi(digits)
	if err != nil {
		return -1
	}
	return n
}
