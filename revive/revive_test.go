package revive_test

import (
	"math"
	"math/rand"
	"testing"

	"pinchcock/api"
	"pinchcock/flash"
	"pinchcock/journal"
	"pinchcock/revive"
)

// The modes that matter.
const (
	idle    = 1
	running = 3
	paused  = 4
	kvo     = 5
	fault   = 7
)

// of is an entry with a programme.
func of(seq, mode int) api.Entry {
	return api.Entry{Seq: seq, Mode: mode, Prog: api.Programme{Rate: 60, Vtbi: 100, Set: 20}, Total: api.Total{Set: 20, Drops: 30 * seq, Base: mode}}
}

// put is an entry as bytes.
func put(e api.Entry) string {
	s, _ := journal.Put(e)
	return s
}

// slots is a flash with these two.
func slots(a, b string) api.Flash {
	return api.Flash{Slots: [2]string{a, b}}
}

// found is what is to be found of an entry in a slot.
func found(e api.Entry, slot int) api.Boot {
	b := api.Boot{Mode: idle, Total: e.Total, Seq: e.Seq, Slot: slot}
	went := e.Mode == running || e.Mode == paused || e.Mode == kvo || e.Mode == fault
	if went && e.Prog.Set != 0 {
		b.Mode, b.Prog = paused, e.Prog
	}
	return b
}

// lost is what is found where there is nothing.
var lost = api.Boot{Mode: idle, Lost: true}

// boot runs Boot, and holds it against what is wanted.
func boot(t *testing.T, f api.Flash, want api.Boot) {
	t.Helper()
	if got := revive.Boot(f); got != want {
		t.Fatalf("Boot(%+v): %+v, want %+v", f, got, want)
	}
}

// P40.1: without an entry it is idle, and lost.
func TestBootOfNothing(t *testing.T) {
	whole := put(of(7, running))
	for _, a := range []string{"", "?", whole[:20], whole[1:], whole + whole, "\x00\x00"} {
		for _, b := range []string{"", "\xff", whole[:8], whole + "\x00"} {
			boot(t, slots(a, b), lost)
			boot(t, slots(b, a), lost)
		}
	}
	boot(t, api.Flash{}, lost)
	boot(t, api.Flash{Busy: true, Slot: 1, Buf: whole, At: 21}, lost)
}

// P40.1: mode by mode: paused with the programme, or idle without one.
func TestBootOfEachMode(t *testing.T) {
	rows := [8]int{0, idle, idle, paused, paused, paused, idle, paused}
	for mode := 1; mode <= 7; mode++ {
		e := of(9, mode)
		want := api.Boot{Mode: rows[mode], Total: e.Total, Seq: 9}
		if rows[mode] == paused {
			want.Prog = e.Prog
		}
		boot(t, slots(put(e), ""), want)
		boot(t, slots(put(e), put(of(8, 8-mode))), want)
		want.Slot = 1
		boot(t, slots("", put(e)), want)
		boot(t, slots(put(of(8, 8-mode)), put(e)), want)
		e.Prog = api.Programme{}
		boot(t, slots("?", put(e)), api.Boot{Mode: idle, Total: e.Total, Seq: 9, Slot: 1})
	}
}

// P40.1: what is found hangs on the slots alone, not on what was being written.
func TestBootOfABusyFlash(t *testing.T) {
	f := slots(put(of(7, running)), "torn")
	f.Busy, f.Slot, f.Buf, f.At = true, 1, put(of(8, kvo)), 4
	boot(t, f, found(of(7, running), 0))
}

// next runs Next, and holds it against what is wanted.
func next(t *testing.T, f api.Flash, slot int, e api.Entry, want api.Flash, wrong api.Errno) {
	t.Helper()
	if got, w := revive.Next(f, slot, e); got != want || w != wrong {
		t.Fatalf("Next(%+v, %d, %+v): %+v, %d, want %+v, %d", f, slot, e, got, w, want, wrong)
	}
}

// P40.2: into the other slot, which is the one that the lowest bit tells.
func TestNext(t *testing.T) {
	e := of(8, running)
	for _, slot := range []int{0, 2, -2, 1 << 32, math.MinInt, 4094} {
		next(t, slots("a", "b"), slot, e, api.Flash{Slots: [2]string{"a", ""}, Busy: true, Slot: 1, Buf: put(e)}, api.OK)
	}
	for _, slot := range []int{1, 3, -1, -3, 1<<32 + 1, math.MaxInt, 4095} {
		next(t, slots("a", "b"), slot, e, api.Flash{Slots: [2]string{"", "b"}, Busy: true, Slot: 0, Buf: put(e)}, api.OK)
	}
	next(t, api.Flash{Slot: 1, Buf: "old", At: 3}, 0, e, api.Flash{Busy: true, Slot: 1, Buf: put(e)}, api.OK)
}

// P40.2: what can't be put first, then what flash.Begin tells; and nothing
// beside it.
func TestNextOfWhatIsWrong(t *testing.T) {
	busy := slots("a", "b")
	busy.Busy, busy.Slot, busy.Buf = true, 1, "abc"
	for _, e := range []api.Entry{{}, of(0, running), of(7, 8), of(1<<32, 3), {Seq: 1, Mode: 1, Prog: api.Programme{Rate: 60}}, {Seq: 1, Mode: 1, Total: api.Total{Drops: -1}}} {
		next(t, slots("a", "b"), 0, e, api.Flash{}, api.ErrForm)
		next(t, busy, 1, e, api.Flash{}, api.ErrForm)
	}
	next(t, busy, 0, of(7, 3), api.Flash{}, api.ErrBusy)
	next(t, busy, 1, of(7, 3), api.Flash{}, api.ErrBusy)
}

// anyEntry is one that may be.
func anyEntry(rnd *rand.Rand, seq int) api.Entry {
	e := of(seq, 1+rnd.Intn(7))
	e.Total.Drops = rnd.Intn(100000)
	if rnd.Intn(3) == 0 {
		e.Prog = api.Programme{}
	}
	return e
}

// anyBytes are some, or such as are nearly an entry.
func anyBytes(rnd *rand.Rand, e api.Entry) string {
	s := []byte(put(e))
	if rnd.Intn(2) == 0 {
		s = s[:rnd.Intn(len(s))]
	}
	for range rnd.Intn(4) {
		if len(s) > 0 {
			s[rnd.Intn(len(s))] = byte(rnd.Intn(256))
		}
	}
	return string(s)
}

// P40.3: whatever bytes there are, it is idle or paused, paused only with a
// programme, and lost only where there is nothing.
func TestWhateverBytesThereAre(t *testing.T) {
	rnd := rand.New(rand.NewSource(403))
	for range 20000 {
		a, b := anyBytes(rnd, anyEntry(rnd, 5)), anyBytes(rnd, anyEntry(rnd, 6))
		got := revive.Boot(slots(a, b))
		if got.Mode != idle && got.Mode != paused || (got.Mode == paused) != (got.Prog.Set != 0) {
			t.Fatalf("%q, %q: %+v", a, b, got)
		}
		if got.Lost && (got != lost) || !got.Lost && got.Seq == 0 {
			t.Fatalf("%q, %q: %+v", a, b, got)
		}
	}
}

// P40.4: what was written last, and whole, is found, wherever the power goes
// while the next one is written, and whatever bytes that leaves.
func TestThePowerGoes(t *testing.T) {
	rnd := rand.New(rand.NewSource(404))
	for range 300 {
		f, slot, was := api.Flash{}, rnd.Intn(2), lost
		for seq := 1; seq <= 12; seq++ {
			e := anyEntry(rnd, seq)
			began, wrong := revive.Next(f, slot, e)
			if wrong != api.OK {
				t.Fatalf("entry %d: %d", seq, wrong)
			}
			f = began
			for wrote := 0; ; {
				boot(t, f, was)
				torn := anyBytes(rnd, e)
				if _, is := journal.Get(torn); !is {
					boot(t, flash.Cut(f, torn), was)
				}
				whole := revive.Boot(flash.Cut(f, f.Buf))
				if whole != found(e, 1-slot) && whole != was {
					t.Fatalf("entry %d: %+v", seq, whole)
				}
				if f, wrote = flash.Step(f, true); wrote == api.WroteAll {
					break
				}
			}
			slot = 1 - slot
			was = found(e, slot)
			boot(t, f, was)
		}
	}
}

// P40.4: also where a write is torn, and is written again.
func TestATornWriteIsWrittenAgain(t *testing.T) {
	f, wrong := revive.Next(slots(put(of(7, kvo)), put(of(6, running))), 0, of(8, paused))
	for range 3 {
		f, _ = flash.Step(f, true)
	}
	f, wrote := flash.Step(f, false)
	if wrong != api.OK || wrote != api.WroteTorn {
		t.Fatalf("%d, %d", wrong, wrote)
	}
	boot(t, f, found(of(7, kvo), 0))
	next(t, f, 0, of(8, paused), api.Flash{Slots: [2]string{put(of(7, kvo)), ""}, Busy: true, Slot: 1, Buf: put(of(8, paused))}, api.OK)
}

// R4: nothing is kept from call to call.
func TestNothingIsKept(t *testing.T) {
	for range 3 {
		boot(t, slots(put(of(7, running)), ""), found(of(7, running), 0))
		boot(t, api.Flash{}, lost)
	}
}

// The chapter's example: nothing in both slots.
func TestExample(t *testing.T) {
	boot(t, slots("", ""), lost)
}
