package console

import (
	"pinchcock/alarm"
	"pinchcock/api"
	"pinchcock/beat"
	"pinchcock/clamp"
	"pinchcock/control"
	"pinchcock/diary"
	"pinchcock/eye"
	"pinchcock/flash"
	"pinchcock/follow"
	"pinchcock/guard"
	"pinchcock/keypad"
	"pinchcock/mode"
	"pinchcock/posture"
	"pinchcock/revive"
	"pinchcock/titrate"
	"pinchcock/total"
)

const (
	// often is how many ticks there are from one step of the control to the next.
	often = 100

	// primed is how far the clamp is open while the line is filled.
	primed = 150
)

// tick is what a tick comes to, step by step: the state that was, the one that is
// to be, and what the steps ahead have told.
type tick struct {
	was, now api.State
	rec      api.Rec
	seen     api.Seen
	rate     int
	known    bool
	over     bool
	wish     api.Wish
	turn     int
	chosen   api.Programme
	wrote    int
	shown    int
	class    int
}

// sense hears of the light, of the drops, of how fast they come, and of the keys.
func (k *tick) sense() {
	k.now.Tick = min(k.was.Tick, api.MaxTick-1) + 1
	k.now.Eye, k.seen = eye.Step(k.was.Eye, k.rec)
	if k.seen.Drop && programmed(k.was) {
		k.now.Total = total.Add(k.was.Total)
	}
	k.now.Beat = beat.Step(k.was.Beat, k.now.Tick, k.seen.Drop)
	k.rate, k.known = beat.Rate(k.now.Beat, k.now.Tick, k.was.Prog.Set)
	k.over = overflows(k.now)
	k.now.Pad, k.wish = keypad.Step(k.was.Pad, k.rec.Key, k.was.Mode, k.was.Guard.Latch)
}

// watch hears of all that may go wrong.
func (k *tick) watch() {
	apart := follow.Apart(k.was.Clamp.Apart, k.was.Clamp.Motor, k.rec.Encoder)
	k.now.Guard, _ = guard.Step(k.was.Guard, api.Look{
		Tick:     k.now.Tick,
		Mode:     k.was.Mode,
		Prog:     k.was.Prog,
		Seen:     k.seen,
		Rec:      k.rec,
		Rate:     k.rate,
		Known:    k.known,
		Out:      k.was.Ctl.Out,
		Stalled:  follow.Stalled(apart),
		Overflow: k.over,
		Ack:      k.wish.Kind == api.WishAck,
	})
}

// decide finds what turns the mode.
func (k *tick) decide() {
	begins := false
	if k.wish.Kind == api.WishBegin {
		k.chosen, begins = choice(k.was, k.wish.Prog)
	}
	switch {
	case k.now.Guard.Latch != 0:
		k.turn = api.TurnHazard
	case k.was.Mode == api.ModeFault:
		k.turn = api.TurnClear
	case k.wish.Kind == api.WishStop:
		k.turn = api.TurnStop
	case k.wish.Kind == api.WishPause:
		k.turn = api.TurnPause
	case k.was.Mode == api.ModeRunning && total.Reached(k.now.Total, k.was.Prog.Vtbi):
		k.turn = api.TurnVolume
	case begins:
		k.turn = api.TurnBegin
	case k.wish.Kind == api.WishPrime:
		k.turn = api.TurnPrime
	case late(k.was):
		k.turn = api.TurnTimeout
	}
}

// enter comes into the mode that follows, with its programme.
func (k *tick) enter() {
	k.now.Mode = mode.Next(k.was.Mode, k.turn, programmed(k.was))
	k.now.Since = k.was.Since + 1
	if k.turned() {
		k.now.Since = 0
	}
	if k.turn == api.TurnBegin && k.now.Mode == api.ModeRunning {
		k.begin()
	}
	if k.turn == api.TurnVolume {
		// What keeps the vein open is so slow that what was known of a drop and of
		// an opening is of no use.
		k.now.Beat = api.Beat{}
		k.now.Ctl = api.Control{Gain: k.was.Ctl.Gain}
	}
	if k.now.Mode == api.ModeIdle {
		k.now.Prog = api.Programme{}
	}
}

// begin begins with the chosen programme, or goes on with it.
func (k *tick) begin() {
	if k.was.Mode == api.ModeIdle {
		k.now.Total = api.Total{Set: k.chosen.Set}
	}
	if k.chosen != k.was.Prog {
		k.now.Prog = k.chosen
		k.now.Guard = guard.Fresh(k.now.Guard)
	}
	if k.was.Mode != api.ModeRunning {
		k.now.Beat = api.Beat{}
		k.now.Ctl = control.Begin(guard.Goal(k.now.Mode, k.now.Prog))
	}
}

// drive opens the clamp, or shuts it.
func (k *tick) drive() {
	// What has just begun opens as it begins.
	if k.now.Mode != api.ModeRunning || !k.turned() {
		goal := guard.Goal(k.now.Mode, k.now.Prog)
		due := k.now.Tick%often == 0
		k.now.Ctl = control.Step(k.now.Ctl, goal, k.rate, due, !mode.Infuses(k.now.Mode))
	}
	open := k.now.Ctl.Out
	if k.now.Mode == api.ModePriming {
		open = primed
	}
	k.now.Clamp, _ = clamp.Step(k.was.Clamp, open, !mode.Opens(k.now.Mode), k.rec.Encoder)
}

// save writes on, and begins to write what is to last, when that is due.
func (k *tick) save() {
	k.now.Flash, k.wrote = flash.Step(k.was.Flash, k.rec.Write)
	k.now.Due = max(k.was.Due, 1) - 1
	switch k.wrote {
	case api.WroteAll:
		k.now.Seq = k.was.Seq + 1
		k.now.Slot = k.now.Flash.Slot & 1
	case api.WroteTorn:
		k.now.Notes |= api.NtWrite
	}
	begun := k.turn == api.TurnBegin && k.reprogrammed()
	if k.wrote == api.WroteTorn || k.turned() || begun {
		k.now.Due = 0
	}
	if k.now.Due == 0 && !k.now.Flash.Busy {
		k.put()
	}
}

// put begins to write an entry.
func (k *tick) put() {
	k.now.Due = api.Journal
	began, wrong := revive.Next(k.now.Flash, k.now.Slot, api.Entry{
		Seq:   k.now.Seq + 1,
		Mode:  k.now.Mode,
		Prog:  k.now.Prog,
		Total: k.now.Total,
	})
	if wrong != api.OK {
		k.now.Notes |= api.NtWrite
		return
	}
	k.now.Flash = began
}

// warn finds what is noted, and how the alarm is.
func (k *tick) warn() {
	if k.wish.Kind == api.WishAck && k.now.Guard.Latch == 0 {
		k.now.Notes = 0
	}
	k.now.Notes &^= api.NtLow
	if posture.Low(k.rec.Battery) {
		k.now.Notes |= api.NtLow
	}
	if k.turn == api.TurnVolume {
		k.now.Notes |= api.NtDone
	}
	silence := k.wish.Kind == api.WishSilence
	k.now.Alarm, k.shown, k.class = alarm.Step(k.was.Alarm, level(k.now), k.fresh() != 0, silence)
}

// write writes into the diary what happened.
func (k *tick) write() {
	k.did(k.turned(), api.DidMode, k.now.Mode)
	k.did(k.fresh() != 0, api.DidLatch, k.fresh())
	k.did(k.wish.Kind == api.WishAck, api.DidAck, k.now.Guard.Latch)
	k.did(k.reprogrammed(), api.DidProgramme, k.now.Prog.Rate)
	k.did(k.wrote != api.WroteNothing, api.DidWrite, k.wrote)
}

// did writes a line into the diary, if it happened.
func (k *tick) did(happened bool, what, arg int) {
	if happened {
		k.now.Diary = diary.Push(k.now.Diary, api.Note{Tick: k.now.Tick, What: what, Arg: arg})
	}
}

// turned tells whether the mode is another one than it was.
func (k *tick) turned() bool {
	return k.now.Mode != k.was.Mode
}

// reprogrammed tells whether the programme is another one than it was.
func (k *tick) reprogrammed() bool {
	return k.now.Prog != k.was.Prog
}

// fresh tells what is latched that was not.
func (k *tick) fresh() int {
	return k.now.Guard.Latch &^ k.was.Guard.Latch
}

// programmed tells whether a state has a programme.
func programmed(s api.State) bool {
	return s.Prog != api.Programme{}
}

// choice tells the programme that is to run when somebody begins one, and true;
// none and false, if there is none. What runs is not to be another one but by its
// rate, and that by no more than may be.
func choice(s api.State, wanted api.Programme) (api.Programme, bool) {
	switch {
	case s.Mode == api.ModeIdle || s.Prog == wanted:
		return wanted, true
	case s.Prog.Vtbi != wanted.Vtbi || s.Prog.Set != wanted.Set:
		return api.Programme{}, false
	}
	next, wrong := titrate.Change(s.Prog, wanted.Rate)
	return next, wrong == api.OK
}

// late tells whether a mode has lasted for as long as it may.
func late(s api.State) bool {
	switch s.Mode {
	case api.ModePriming:
		return s.Since >= api.Prime
	case api.ModeKvo:
		return s.Since >= api.KvoTicks
	}
	return false
}

// overflows tells whether a number of a state went beyond its limits.
func overflows(s api.State) (over bool) {
	defer func() {
		if recover() != nil {
			over = true
		}
	}()
	bound(s)
	return false
}

// bound panics if a number of a state went beyond its limits.
func bound(s api.State) {
	if _, over := total.Volume(s.Total); over {
		panic("more has flowed than may be")
	}
	if s.Tick >= api.MaxTick {
		panic("more ticks went by than may be")
	}
}
