package blackbox

import (
	"pinchcock/api"
	"pinchcock/varint"
)

const (
	// places is how many numbers a trace has.
	places = 11

	// tickAt and dropAt are the places of the tick, and of the drop.
	tickAt = 0
	dropAt = 1
)

// row is the numbers of a trace, each at its place.
type row [places]int

// numbers tells those of a trace.
func numbers(t api.Trace) row {
	drop := 0
	if t.Drop {
		drop = 1
	}
	f := t.Face
	return row{t.Tick, drop, t.Pos, f.Mode, f.Level, f.Buzzer, f.Latch, f.Notes, f.Volume, f.Rate, f.Open}
}

// trace tells the one with these numbers.
func trace(r row) api.Trace {
	face := api.Face{Mode: r[3], Level: r[4], Buzzer: r[5], Latch: r[6], Notes: r[7], Volume: r[8], Rate: r[9], Open: r[10]}
	return api.Trace{Tick: r[tickAt], Drop: r[dropAt] == 1, Pos: r[2], Face: face}
}

// right tells whether these may be the numbers of a trace that is told.
func (r row) right() bool {
	for _, n := range r {
		if n < 0 || n > api.MaxTick {
			return false
		}
	}
	return r[dropAt] <= 1
}

// expected tells the numbers of which nothing is told behind these: but for the
// tick all are as they were.
func (r row) expected() row {
	r[tickAt]++
	return r
}

// changes tells by how much numbers are others than was expected: at which places,
// and of each of these how much.
func changes(was, now row) string {
	marks, told := 0, ""
	for place, n := range was.expected() {
		if more := now[place] - n; more != 0 {
			marks |= 1 << place
			told += varint.Put(varint.Zig(more))
		}
	}
	return varint.Put(marks) + told
}

// changed tells the numbers behind those that were, by what stands in a text at a
// place, the place behind it, and true; or that there are none.
func changed(was row, text string, at int) (row, int, bool) {
	marks, at, ok := varint.Take(text, at)
	if !ok || marks >= 1<<places {
		return row{}, 0, false
	}
	now := was.expected()
	for place := range now {
		if marks>>place&1 == 0 {
			continue
		}
		zig, next, ok := varint.Take(text, at)
		// What did not change has no mark.
		if !ok || zig == 0 {
			return row{}, 0, false
		}
		now[place] += varint.Zag(zig)
		at = next
	}
	return now, at, now.right()
}
