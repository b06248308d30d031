package flash_test

import (
	"math"
	"math/rand"
	"strings"
	"testing"

	"pinchcock/api"
	"pinchcock/flash"
)

// long is more bytes than a slot may be written, no two the same, with some that
// are no text.
const long = "0123456789abcdefghijklmnopqrstuvwxyzABCDEFGHIJKLMNOPQRSTUVWXYZ-+\x00\xff\xc3(\"#$%&'*,./:;<=>?@[\\]^_`{|}~\t\n\r\x01\x02\x80\xfe "

// slots are two slots with bytes.
func slots() [2]string {
	return [2]string{"zero", "first"}
}

// idle is a flash that is not busy, with these slots.
func idle(zero, first string, slot int) api.Flash {
	return api.Flash{Slots: [2]string{zero, first}, Slot: slot}
}

// busy is a flash that writes buf into the slot, of which at bytes are written.
func busy(zero, first string, slot int, buf string, at int) api.Flash {
	return api.Flash{Slots: [2]string{zero, first}, Busy: true, Slot: slot, Buf: buf, At: at}
}

// begun is a row of Begin.
type begun struct {
	f     api.Flash
	slot  int
	s     string
	want  api.Flash
	wrong api.Errno
}

// begins runs the rows.
func begins(t *testing.T, rows []begun) {
	t.Helper()
	for _, r := range rows {
		if got, wrong := flash.Begin(r.f, r.slot, r.s); got != r.want || wrong != r.wrong {
			t.Errorf("Begin(%+v, %d, %q): %+v, %d, want %+v, %d", r.f, r.slot, r.s, got, wrong, r.want, r.wrong)
		}
	}
}

// stepped is a row of Step.
type stepped struct {
	f    api.Flash
	well bool
	want api.Flash
	came int
}

// steps runs the rows.
func steps(t *testing.T, rows []stepped) {
	t.Helper()
	for _, r := range rows {
		if got, came := flash.Step(r.f, r.well); got != r.want || came != r.came {
			t.Errorf("Step(%+v, %v): %+v, %d, want %+v, %d", r.f, r.well, got, came, r.want, r.came)
		}
	}
}

// cut is a row of Cut.
type cut struct {
	f    api.Flash
	torn string
	want api.Flash
}

// cuts runs the rows.
func cuts(t *testing.T, rows []cut) {
	t.Helper()
	for _, r := range rows {
		if got := flash.Cut(r.f, r.torn); got != r.want {
			t.Errorf("Cut(%+v, %q): %+v, want %+v", r.f, r.torn, got, r.want)
		}
	}
}

// P15.1: the slot is empty, and it is busy with the bytes, of which none is
// written.
func TestBegin(t *testing.T) {
	begins(t, []begun{
		{api.Flash{}, 0, "a", busy("", "", 0, "a", 0), api.OK},
		{api.Flash{}, 1, "abcdef", busy("", "", 1, "abcdef", 0), api.OK},
		{idle("zero", "first", 0), 0, "new", busy("", "first", 0, "new", 0), api.OK},
		{idle("zero", "first", 0), 1, "new", busy("zero", "", 1, "new", 0), api.OK},
		{idle("zero", "first", 1), 0, "new", busy("", "first", 0, "new", 0), api.OK},
		{idle("zero", "first", 7), 1, "\x00\xff", busy("zero", "", 1, "\x00\xff", 0), api.OK},
		{idle("zero", "first", -4), 1, long[:64], busy("zero", "", 1, long[:64], 0), api.OK},
		{api.Flash{Slots: slots(), Slot: 1, Buf: "stray", At: 9}, 0, "new", busy("", "first", 0, "new", 0), api.OK},
	})
}

// P15.1: from 1 to 64 bytes.
func TestBeginOfEverySize(t *testing.T) {
	for size := 0; size <= len(long); size++ {
		for slot := range 2 {
			want, wrong := api.Flash{Slots: slots(), Busy: true, Slot: slot, Buf: long[:size]}, api.OK
			want.Slots[slot] = ""
			if size < 1 || size > 64 {
				want, wrong = api.Flash{}, api.ErrSize
			}
			begins(t, []begun{{idle("zero", "first", 0), slot, long[:size], want, wrong}})
		}
	}
	begins(t, []begun{
		{api.Flash{}, 0, strings.Repeat("x", 1<<16), api.Flash{}, api.ErrSize},
		{api.Flash{}, 0, strings.Repeat("é", 32), busy("", "", 0, strings.Repeat("é", 32), 0), api.OK},
		{api.Flash{}, 0, strings.Repeat("é", 33), api.Flash{}, api.ErrSize},
	})
}

// P15.1: what is wrong, in this order; beside it there is nothing.
func TestBeginThatIsWrong(t *testing.T) {
	at := busy("zero", "fi", 1, "first", 2)
	for _, slot := range []int{math.MinInt, -1, 0, 1, 2, math.MaxInt} {
		for _, s := range []string{"", "new", long[:64], long[:65]} {
			begins(t, []begun{{at, slot, s, api.Flash{}, api.ErrBusy}, {api.Flash{Busy: true}, slot, s, api.Flash{}, api.ErrBusy}})
		}
	}
	for _, slot := range []int{math.MinInt, -api.Top, -2, -1, 2, 3, 1 << 32, 1<<32 + 1, 256, math.MaxInt} {
		for _, s := range []string{"", "new", long[:65]} {
			begins(t, []begun{{idle("zero", "first", 0), slot, s, api.Flash{}, api.ErrArg}})
		}
	}
}

// P15.2: what is not busy is as it is, also with bytes that it is not to have.
func TestStepOfWhatIsNotBusy(t *testing.T) {
	for _, f := range []api.Flash{
		{}, idle("zero", "first", 0), idle("zero", "first", 1), idle("", long, -3),
		{Slots: slots(), Slot: 5, Buf: "stray", At: 2}, {Buf: long, At: math.MinInt},
	} {
		steps(t, []stepped{{f, true, f, api.WroteNothing}, {f, false, f, api.WroteNothing}})
	}
}

// P15.2: what does not go well leaves the slot as it was.
func TestStepThatDoesNotGoWell(t *testing.T) {
	steps(t, []stepped{
		{busy("", "first", 0, "abcdef", 0), false, idle("", "first", 0), api.WroteTorn},
		{busy("abcd", "first", 0, "abcdef", 4), false, idle("abcd", "first", 0), api.WroteTorn},
		{busy("zero", "abcd", 1, "abcdef", 4), false, idle("zero", "abcd", 1), api.WroteTorn},
		{busy("zero", "other", 1, "abcdef", 4), false, idle("zero", "other", 1), api.WroteTorn},
		{busy("zero", "first", 6, "abcdef", 4), false, idle("zero", "first", 6), api.WroteTorn},
		{busy("zero", "first", -1, "", 64), false, idle("zero", "first", -1), api.WroteTorn},
	})
}

// P15.2: four more bytes, till these are all.
func TestStep(t *testing.T) {
	steps(t, []stepped{
		{busy("", "first", 0, "abcdef", 0), true, busy("abcd", "first", 0, "abcdef", 4), api.WroteNothing},
		{busy("abcd", "first", 0, "abcdef", 4), true, idle("abcdef", "first", 0), api.WroteAll},
		{busy("zero", "", 1, "abcd", 0), true, idle("zero", "abcd", 1), api.WroteAll},
		{busy("zero", "", 1, "abcde", 0), true, busy("zero", "abcd", 1, "abcde", 4), api.WroteNothing},
		{busy("zero", "", 1, "abc", 0), true, idle("zero", "abc", 1), api.WroteAll},
		{busy("zero", "", 1, "a", 0), true, idle("zero", "a", 1), api.WroteAll},
		{busy("zero", "a", 1, "abcdefg", 1), true, busy("zero", "abcde", 1, "abcdefg", 5), api.WroteNothing},
		{busy("zero", "other", 1, "abcdefg", 3), true, idle("zero", "abcdefg", 1), api.WroteAll},
		{busy("zero", "other", 1, "abcdefg", 2), true, busy("zero", "abcdef", 1, "abcdefg", 6), api.WroteNothing},
	})
}

// P15.2: the lowest bit of the slot's number counts, and the number stays.
func TestStepOfOtherSlots(t *testing.T) {
	for _, even := range []int{-1 << 62, -4, -2, 2, 6, 256, 1 << 32, math.MinInt, math.MaxInt - 1} {
		steps(t, []stepped{
			{busy("", "first", even, "abcdef", 0), true, busy("abcd", "first", even, "abcdef", 4), api.WroteNothing},
			{busy("abcd", "first", even, "abcdef", 4), true, idle("abcdef", "first", even), api.WroteAll},
		})
	}
	for _, odd := range []int{-1<<62 + 1, -3, -1, 3, 7, 257, 1<<32 + 1, math.MinInt + 1, math.MaxInt} {
		steps(t, []stepped{
			{busy("zero", "", odd, "abcdef", 0), true, busy("zero", "abcd", odd, "abcdef", 4), api.WroteNothing},
			{busy("zero", "abcd", odd, "abcdef", 4), true, idle("zero", "abcdef", odd), api.WroteAll},
		})
	}
}

// P15.2: how many are written counts as from 0 to 64; bytes that are none, or
// more than there may be, are gone through all the same.
func TestStepOfNumbersBeyond(t *testing.T) {
	for _, low := range []int{math.MinInt, -api.Top, -64, -4, -1} {
		steps(t, []stepped{
			{busy("other", "first", 0, "abcdef", low), true, busy("abcd", "first", 0, "abcdef", 4), api.WroteNothing},
			{busy("other", "first", 0, "abcd", low), true, idle("abcd", "first", 0), api.WroteAll},
		})
	}
	for _, high := range []int{7, 60, 64, 65, 68, 256, 1 << 32, api.Top, math.MaxInt - 3, math.MaxInt} {
		steps(t, []stepped{{busy("other", "first", 0, "abcdef", high), true, idle("abcdef", "first", 0), api.WroteAll}})
	}
	for _, high := range []int{64, 65, 68, 90, 1 << 32, math.MaxInt} {
		steps(t, []stepped{
			{busy("other", "first", 0, long, high), true, busy(long[:68], "first", 0, long, 68), api.WroteNothing},
			{busy("other", "first", 0, long[:69], high), true, busy(long[:68], "first", 0, long[:69], 68), api.WroteNothing},
			{busy("other", "first", 0, long[:68], high), true, idle(long[:68], "first", 0), api.WroteAll},
		})
	}
	steps(t, []stepped{
		{busy("other", "first", 0, long, 63), true, busy(long[:67], "first", 0, long, 67), api.WroteNothing},
		{busy("other", "first", 0, "", 0), true, idle("", "first", 0), api.WroteAll},
		{busy("other", "first", 1, "", 9), true, idle("other", "", 1), api.WroteAll},
	})
}

// P15.3: what is being written is torn; what is not stays.
func TestCut(t *testing.T) {
	cuts(t, []cut{
		{busy("abcd", "first", 0, "abcdef", 4), "torn", idle("torn", "first", 0)},
		{busy("zero", "abcd", 1, "abcdef", 4), "torn", idle("zero", "torn", 1)},
		{busy("zero", "abcd", 1, "abcdef", 4), "", idle("zero", "", 1)},
		{busy("zero", "abcd", 1, "abcdef", 4), "abcdef", idle("zero", "abcdef", 1)},
		{busy("zero", "", 1, "abcdef", 0), "\xff\x00", idle("zero", "\xff\x00", 1)},
		{busy("zero", "first", 2, "abcdef", 0), "torn", idle("torn", "first", 2)},
		{busy("zero", "first", 3, "abcdef", 0), "torn", idle("zero", "torn", 3)},
		{busy("zero", "first", -1, "abcdef", 0), "torn", idle("zero", "torn", -1)},
		{busy("zero", "first", math.MinInt, "", math.MaxInt), "torn", idle("torn", "first", math.MinInt)},
		{idle("zero", "first", 0), "torn", idle("zero", "first", 0)},
		{idle("zero", "first", 1), "torn", idle("zero", "first", 1)},
		{api.Flash{}, "torn", api.Flash{}},
		{api.Flash{Slots: slots(), Slot: 5, Buf: "stray", At: 9}, "torn", idle("zero", "first", 5)},
	})
}

// P15.3: of what is torn its first 64 bytes.
func TestCutOfEverySize(t *testing.T) {
	for size := 0; size <= len(long); size++ {
		cuts(t, []cut{
			{busy("abcd", "first", 0, "abcdef", 4), long[:size], idle(long[:min(size, 64)], "first", 0)},
			{idle("zero", "first", 0), long[:size], idle("zero", "first", 0)},
		})
	}
	cuts(t, []cut{{busy("abcd", long, 0, "abcdef", 4), strings.Repeat("x", 1<<16), idle(strings.Repeat("x", 64), long, 0)}})
}

// P15.4: what goes well is there behind a tick for each four bytes, and not
// earlier. P15.5: till then the slot is a beginning of it; the other one stays.
func TestWhatGoesWellIsThere(t *testing.T) {
	for size := 1; size <= 64; size++ {
		for slot := range 2 {
			f, wrong := flash.Begin(idle("zero", "first", 0), slot, long[:size])
			if wrong != api.OK || f.Slots[slot] != "" {
				t.Fatalf("%d bytes: %+v, %d", size, f, wrong)
			}
			for tick := 1; tick <= (size+3)/4; tick++ {
				var came int
				f, came = flash.Step(f, true)
				last := tick == (size+3)/4
				if f.Busy == last || (came == api.WroteAll) != last || !last && came != api.WroteNothing {
					t.Fatalf("%d bytes, tick %d: %+v, %d", size, tick, f, came)
				}
				if f.Slots[slot] != long[:min(4*tick, size)] || f.Slots[1-slot] != slots()[1-slot] {
					t.Fatalf("%d bytes, tick %d: %+v", size, tick, f)
				}
			}
			if want := (api.Flash{Slots: f.Slots, Slot: slot}); f != want || f.Slots[slot] != long[:size] {
				t.Fatalf("%d bytes: %+v", size, f)
			}
		}
	}
}

// P15.5: whatever happens, the other slot stays, and while it is busy, the slot
// is a beginning of what is written.
func TestTheOtherSlotStays(t *testing.T) {
	rnd := rand.New(rand.NewSource(155))
	f := idle("zero", "first", 0)
	for range 50000 {
		was := f
		slot := was.Slot & 1
		switch rnd.Intn(8) {
		case 0:
			at := rnd.Intn(30)
			to := rnd.Intn(3)
			if then, wrong := flash.Begin(f, to, long[at:at+rnd.Intn(68)]); wrong == api.OK {
				f, slot = then, to
			}
		case 1:
			f = flash.Cut(f, long[rnd.Intn(40):])
		default:
			f, _ = flash.Step(f, rnd.Intn(20) > 0)
		}
		if f.Slots[1-slot] != was.Slots[1-slot] || f.Slot&1 != slot {
			t.Fatalf("%+v: was %+v", f, was)
		}
		if f.Busy && (f.At > len(f.Buf) || f.Slots[slot] != f.Buf[:f.At]) {
			t.Fatalf("%+v: was %+v", f, was)
		}
	}
}

// R4: nothing is kept from call to call; what is handed in stays.
func TestNothingIsKept(t *testing.T) {
	f := busy("abcd", "first", 0, "abcdef", 4)
	for range 3 {
		steps(t, []stepped{{f, true, idle("abcdef", "first", 0), api.WroteAll}, {f, false, idle("abcd", "first", 0), api.WroteTorn}})
		cuts(t, []cut{{f, "torn", idle("torn", "first", 0)}})
		begins(t, []begun{{f, 0, "new", api.Flash{}, api.ErrBusy}, {idle("a", "b", 0), 1, "new", busy("a", "", 1, "new", 0), api.OK}})
	}
	if f != busy("abcd", "first", 0, "abcdef", 4) {
		t.Errorf("%+v", f)
	}
}

// The chapter's example: six bytes are written in two ticks.
func TestExample(t *testing.T) {
	f, _ := flash.Begin(api.Flash{}, 0, "sixsix")
	f, once := flash.Step(f, true)
	f, twice := flash.Step(f, true)
	if once != api.WroteNothing || twice != api.WroteAll || f != idle("sixsix", "", 0) {
		t.Errorf("%+v, %d, %d", f, once, twice)
	}
}
