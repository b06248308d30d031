package diary_test

import (
	"math"
	"math/rand"
	"slices"
	"testing"

	"pinchcock/api"
	"pinchcock/diary"
)

// of is a note.
func of(tick, what, arg int) api.Note {
	return api.Note{Tick: tick, What: what, Arg: arg}
}

// upTo are notes of the ticks from low to high.
func upTo(low, high int) []api.Note {
	l := []api.Note{}
	for tick := low; tick <= high; tick++ {
		l = append(l, of(tick, 1+tick%7, -tick))
	}
	return l
}

// push runs Push, and holds it against what is wanted.
func push(t *testing.T, l []api.Note, n api.Note, want []api.Note) []api.Note {
	t.Helper()
	before := slices.Clone(l)
	got := diary.Push(l, n)
	if !slices.Equal(got, want) {
		t.Fatalf("Push(%v, %v): %v, want %v", l, n, got, want)
	}
	if !slices.Equal(l, before) {
		t.Fatalf("Push(%v, %v) changed it: %v", before, n, l)
	}
	return got
}

// P44.1: behind all others, the last 32.
func TestPush(t *testing.T) {
	n := of(7, 1, 3)
	push(t, nil, n, []api.Note{n})
	push(t, []api.Note{}, n, []api.Note{n})
	push(t, []api.Note{of(9, 2, 4)}, n, []api.Note{of(9, 2, 4), n})
	push(t, []api.Note{n, n}, n, []api.Note{n, n, n})
	for _, size := range []int{1, 2, 29, 30, 31, 32, 33, 34, 64, 100, 5000} {
		l := upTo(1, size)
		push(t, l, n, append(slices.Clone(l[max(size-31, 0):]), n))
	}
}

// P44.1: whatever the numbers of a note are.
func TestPushOfAnyNumbers(t *testing.T) {
	wild := []api.Note{{}, of(-1, 0, -1), of(math.MinInt, math.MaxInt, math.MinInt), of(math.MaxInt, 8, 0), of(5, -5, 1<<62)}
	l := []api.Note{}
	for k, n := range wild {
		l = push(t, l, n, wild[:k+1])
	}
}

// P44.2: the tick, the word and the number.
func TestText(t *testing.T) {
	rows := []struct {
		n    api.Note
		want string
	}{
		{of(7, 1, 3), "7 mode 3"}, {of(0, 2, 192), "0 latch 192"}, {of(10, 3, 0), "10 ack 0"}, {of(1<<40, 4, 60), "1099511627776 programme 60"}, {of(5, 5, 1), "5 drop 1"}, {of(0, 6, 1), "0 boot 1"}, {of(99, 7, 2), "99 write 2"},
		{of(7, 0, 3), "7 ? 3"}, {of(7, 8, 3), "7 ? 3"}, {of(7, -1, 3), "7 ? 3"}, {of(7, math.MinInt, 3), "7 ? 3"}, {of(7, math.MaxInt, 3), "7 ? 3"}, {of(7, 1<<32+1, 3), "7 ? 3"}, {of(7, 256+1, 3), "7 ? 3"}, {api.Note{}, "0 ? 0"},
		{of(-7, 1, -3), "-7 mode -3"}, {of(-10, 1, 100), "-10 mode 100"}, {of(math.MinInt, 1, math.MaxInt), "-9223372036854775808 mode 9223372036854775807"}, {of(math.MaxInt, 1, math.MinInt), "9223372036854775807 mode -9223372036854775808"},
	}
	for _, r := range rows {
		if got := diary.Text(r.n); got != r.want {
			t.Errorf("Text(%+v): %q, want %q", r.n, got, r.want)
		}
	}
}

// since runs Since, and holds it against what is wanted.
func since(t *testing.T, l []api.Note, tick int, want []api.Note) []api.Note {
	t.Helper()
	before := slices.Clone(l)
	got := diary.Since(l, tick)
	if !slices.Equal(got, want) {
		t.Fatalf("Since(%v, %d): %v, want %v", l, tick, got, want)
	}
	if !slices.Equal(l, before) {
		t.Fatalf("Since(%v, %d) changed it: %v", before, tick, l)
	}
	return got
}

// P44.3: those at the tick, and behind it, in order.
func TestSince(t *testing.T) {
	l := []api.Note{of(1, 1, 1), of(1, 2, 2), of(5, 1, 3), of(3, 4, 4), of(9, 1, 5), of(-2, 1, 6)}
	rows := []struct {
		tick int
		want []api.Note
	}{
		{math.MinInt, l}, {-3, l}, {-2, l}, {-1, l[:5]}, {0, l[:5]}, {1, l[:5]}, {2, l[2:5]}, {3, l[2:5]}, {4, []api.Note{l[2], l[4]}}, {5, []api.Note{l[2], l[4]}}, {6, l[4:5]}, {9, l[4:5]}, {10, nil}, {math.MaxInt, nil},
	}
	for _, r := range rows {
		since(t, l, r.tick, r.want)
	}
	since(t, nil, 0, nil)
	since(t, []api.Note{}, math.MinInt, nil)
	since(t, []api.Note{of(math.MinInt, 0, 0), of(math.MaxInt, 0, 0)}, math.MaxInt, []api.Note{of(math.MaxInt, 0, 0)})
	since(t, upTo(1, 5000), 1000, upTo(1000, 5000))
}

// P44.4: whatever happened, the last 32 are there, in order.
func TestTheLastAreThere(t *testing.T) {
	rnd := rand.New(rand.NewSource(444))
	l, all := []api.Note(nil), []api.Note{}
	for range 2000 {
		n := of(rnd.Intn(1000)-100, rnd.Intn(10)-1, int(rnd.Uint64()))
		all = append(all, n)
		l = push(t, l, n, all[max(len(all)-32, 0):])
		if len(l) > 32 {
			t.Fatalf("%d notes", len(l))
		}
	}
}

// R3: what is answered is new memory, and nothing is written behind a list's end.
func TestMemory(t *testing.T) {
	for _, size := range []int{0, 1, 31, 32, 40} {
		room := upTo(1, size+4)
		l := room[:size]
		for _, got := range [][]api.Note{diary.Push(l, of(0, 0, 0)), diary.Since(l, 0)} {
			got = append(got, of(8, 8, 8), of(8, 8, 8))
			for k := range got {
				got[k] = of(9, 9, 9)
			}
			if !slices.Equal(room, upTo(1, size+4)) {
				t.Fatalf("%d notes: %v", size, room)
			}
		}
	}
}

// R4: nothing is kept from call to call.
func TestNothingIsKept(t *testing.T) {
	for range 3 {
		push(t, upTo(1, 2), of(3, 3, 3), append(upTo(1, 2), of(3, 3, 3)))
		since(t, upTo(1, 2), 2, upTo(2, 2))
	}
}

// The chapter's example.
func TestExample(t *testing.T) {
	if got := diary.Text(of(7, api.DidMode, api.ModeRunning)); got != "7 mode 3" {
		t.Errorf("%q", got)
	}
}
