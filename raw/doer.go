package raw

import (
	"slices"

	"huckster/api"
	"huckster/awset"
	"huckster/clock"
	"huckster/escrow"
	"huckster/register"
	"huckster/rwset"
	"huckster/tally"
)

// doer does the effects of an event that may be and fits, to raw of its own that may be.
type doer struct {
	kinds api.Kinds
	raw   api.Raw
	event api.Event
}

// inTurn hands effects on as they stand, up to the first one that is refused.
func inTurn(l []api.Effect, do func(api.Effect) api.Errno) api.Errno {
	for _, x := range l {
		if refused := do(x); refused != api.OK {
			return refused
		}
	}
	return api.OK
}

// doAll does all drops, then all adds, then the others, up to the first one that is refused.
func (d *doer) doAll() api.Errno {
	for _, do := range []func(api.Effect) api.Errno{d.drop, d.add, d.other} {
		if refused := inTurn(d.event.Effects, do); refused != api.OK {
			return refused
		}
	}
	return api.OK
}

// also tells whether the event does that kind, too, to the key of an add or a drop, in its set.
func (d *doer) also(kind int, x api.Effect) bool {
	// Adds and drops have nothing but a set and a key, so that one of the other kind is alike in all else.
	x.Kind = kind
	return slices.Contains(d.event.Effects, x)
}

// drop does an EffDrop, and nothing else.
func (d *doer) drop(x api.Effect) (refused api.Errno) {
	if x.Kind != api.EffDrop {
		return api.OK
	}
	s := d.raw.Sets[x.Of]
	if d.kinds.Sets[x.Of] {
		d.raw.Sets[x.Of], refused = rwset.Drop(s, x.Key, d.event.Dot, d.event.Past)
	} else if !d.also(api.EffAdd, x) {
		d.raw.Sets[x.Of], refused = awset.Drop(s, x.Key, d.event.Past)
	}
	return refused
}

// add does an EffAdd, and nothing else.
func (d *doer) add(x api.Effect) (refused api.Errno) {
	if x.Kind != api.EffAdd {
		return api.OK
	}
	s := d.raw.Sets[x.Of]
	if !d.kinds.Sets[x.Of] {
		d.raw.Sets[x.Of], refused = awset.Add(s, x.Key, d.event.Dot, d.event.Past)
	} else if !d.also(api.EffDrop, x) {
		d.raw.Sets[x.Of], refused = rwset.Add(s, x.Key, d.event.Dot, d.event.Past)
	}
	return refused
}

// other does what is neither an EffDrop nor an EffAdd.
func (d *doer) other(x api.Effect) (refused api.Errno) {
	by := x.N
	switch x.Kind {
	case api.EffDown:
		by = -by
		fallthrough
	case api.EffUp:
		refused = d.up(x, by)
	case api.EffMove:
		d.raw.Accounts[x.Of], refused = escrow.Move(d.raw.Accounts[x.Of], x.Key, d.event.Dot.Rep, x.To, x.N)
	case api.EffSet:
		d.raw.Regs[x.Of], refused = register.Set(d.raw.Regs[x.Of], d.note(x))
	}
	return refused
}

// up lets a count have more, or less: with a floor it is the replica that has it.
func (d *doer) up(x api.Effect, by int) (refused api.Errno) {
	if d.kinds.Counts[x.Of].Is {
		d.raw.Accounts[x.Of], refused = escrow.Up(d.raw.Accounts[x.Of], x.Key, d.event.Dot.Rep, by)
	} else {
		d.raw.Tallies[x.Of], refused = tally.Add(d.raw.Tallies[x.Of], x.Key, by)
	}
	return refused
}

// note is the note that an EffSet sets: later than all that the event knew.
func (d *doer) note(x api.Effect) api.Note {
	return api.Note{Key: x.Key, At: clock.Sum(d.event.Past) + 1, Rep: d.event.Dot.Rep, Word: x.Word}
}
