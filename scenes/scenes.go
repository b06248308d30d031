// Package scenes makes scripts for tests: calm ones and wild ones, with drops,
// keys, faults and power cuts. A scene hangs on its number alone.
package scenes

import (
	"math"

	"pinchcock/api"
	"pinchcock/console"
	"pinchcock/journal"
	"pinchcock/session"
)

// What may be amiss for a while.
const (
	fine = iota
	stuck
	tilted
	flat
	low
	hasty
	slow
	dry
	dark
	opened
	broken
	kinds
)

const (
	// calmest is how many times as rare what is amiss is in the calmest scenes.
	calmest = 12

	// dripping is how many ticks a drop shades the beam.
	dripping = 2
)

// scene is one that is being made: the numbers that it is drawn by, the
// controller as it has come so far, and what is amiss.
type scene struct {
	drawn uint64
	calm  int
	s     api.State
	next  int
	shade int
	amiss int
	left  int
}

// Make tells two slots of a flash, and so many steps of a script.
func Make(number, steps int) ([2]string, []api.Step) {
	c := &scene{drawn: uint64(number)}
	c.calm = 1 + c.below(calmest)
	slots := c.slots()
	c.s = console.Boot(api.Flash{Slots: slots})
	var l []api.Step
	for range steps {
		x := c.step()
		l = append(l, x)
		c.s, _ = session.Step(c.s, x)
	}
	return slots, l
}

// below draws a number from 0 on, below n. The constants are those by which
// Steele, Lea and Flood split a number into many.
func (c *scene) below(n int) int {
	c.drawn += 0x9E3779B97F4A7C15
	z := c.drawn
	z = (z ^ z>>30) * 0xBF58476D1CE4E5B9
	z = (z ^ z>>27) * 0x94D049BB133111EB
	return int((z ^ z>>31) % uint64(n))
}

// slots tells what stands in the flash at first: mostly a programme that is soon
// infused, and now and then a volume that is as great as it can be, or nothing.
func (c *scene) slots() [2]string {
	plans := []api.Programme{
		{Rate: 500, Vtbi: 1, Set: 10},
		{Rate: 1000, Vtbi: 1, Set: 20},
		{Rate: 300, Vtbi: 2, Set: 10},
		{Rate: 400, Vtbi: 1, Set: 60},
		{Rate: 600, Vtbi: 3, Set: 15},
		{Rate: 60, Vtbi: 100, Set: 20},
	}
	plan := plans[c.below(len(plans))]
	base := c.below(2000)
	if c.below(6) == 0 {
		base = api.MaxVolume - base
	}
	put, _ := journal.Put(api.Entry{
		Seq:   1 + c.below(1000),
		Mode:  api.ModeIdle + c.below(api.ModeFault),
		Prog:  plan,
		Total: api.Total{Set: plan.Set, Drops: c.below(9), Base: base},
	})
	slots := [2]string{}
	if c.below(6) > 0 {
		slots[c.below(2)] = put
	}
	return slots
}

// step draws a step of the script.
func (c *scene) step() api.Step {
	if c.below(2500) == 0 {
		c.calm = 1 + c.below(calmest)
		return api.Step{Cut: true, Torn: c.torn()}
	}
	c.change()
	raw := api.Raw{
		Adc:     c.light(),
		Tilt:    5,
		Battery: 5000,
		Encoder: float64(c.s.Clamp.Motor.Pos),
		Key:     c.key(),
		Write:   c.below(30*c.calm) > 0,
	}
	return api.Step{Raw: c.wrong(raw)}
}

// change lets something go amiss, or be over.
func (c *scene) change() {
	c.left--
	if c.left > 0 {
		return
	}
	c.amiss, c.left = fine, 1
	if c.below(100*c.calm) == 0 {
		c.amiss, c.left = c.below(kinds), 1+c.below(60)
	}
	if c.amiss == hasty || c.amiss == slow || c.amiss == dry {
		c.left *= 20
	}
}

// torn draws what a power cut leaves: a beginning of what is written, or anything.
func (c *scene) torn() string {
	if c.below(2) == 0 {
		buf := c.s.Flash.Buf
		return buf[:c.below(len(buf)+1)]
	}
	left := make([]byte, c.below(70))
	for k := range left {
		left[k] = byte(c.below(256))
	}
	return string(left)
}

// light draws a light: drops come mostly at the pace of the programme.
func (c *scene) light() float64 {
	c.next--
	if c.next <= 0 {
		c.next = c.gap()
		c.shade = dripping
	}
	c.shade--
	if c.shade >= 0 && c.amiss != dry {
		return 2000
	}
	return 3000
}

// gap draws how many ticks there are to the next drop.
func (c *scene) gap() int {
	pace := c.s.Prog.Rate * c.s.Prog.Set
	if pace <= 0 {
		return 20 + c.below(100)
	}
	every := max(api.Hour/pace+c.below(5)-2, 1)
	switch c.amiss {
	case hasty:
		return max(every/2, dripping+3)
	case slow:
		return every * 3
	}
	return every
}

// key draws a key: mostly none, and of the others mostly one that does something.
func (c *scene) key() int {
	still := c.s.Mode == api.ModeIdle || c.s.Mode == api.ModePaused
	switch {
	case c.below(40) > 0:
		return api.KeyNone
	case c.s.Guard.Latch != 0 && c.below(2) == 0:
		return api.KeyAck
	case c.s.Pad.Ask && c.below(4) > 0:
		return api.KeyConfirm
	case still && c.below(3) > 0:
		return api.KeyStart
	case c.s.Mode == api.ModeIdle:
		return api.KeyPrime
	case c.s.Mode == api.ModeKvo && c.below(8) == 0:
		return api.KeyPause
	case c.below(12) > 0:
		harmless := []int{api.KeyNone, api.KeyStart, api.KeySilence, api.KeyAck}
		return harmless[c.below(len(harmless))]
	}
	return c.below(13) - 1
}

// wrong tells the record with what is amiss.
func (c *scene) wrong(raw api.Raw) api.Raw {
	switch c.amiss {
	case stuck:
		raw.Encoder -= 20
	case tilted:
		raw.Tilt = 31 + float64(c.below(100))
	case flat:
		raw.Battery = 3299
	case low:
		raw.Battery = 3499
	case dark:
		raw.Adc = 2100
	case opened:
		raw.Door = true
	case broken:
		return c.wild(raw)
	}
	return raw
}

// wild tells what a broken sensor does.
func (c *scene) wild(raw api.Raw) api.Raw {
	wild := []float64{math.NaN(), math.Inf(1), math.Inf(-1), -1, 5000, 0, math.Copysign(0, -1), 0.25, 1e300}
	drawn := wild[c.below(len(wild))]
	switch c.below(4) {
	case 0:
		raw.Adc = drawn
	case 1:
		raw.Tilt = drawn
	case 2:
		raw.Battery = drawn
	case 3:
		raw.Encoder = drawn
	}
	return raw
}
