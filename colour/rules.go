package colour

import "scarfjoint/api"

// rules are what N2 asks of where a body's registers lie.
type rules struct {
	apart map[int]set // of a register those from which it lies apart, and perhaps itself; of two that lie apart one of them has the other
	kept  set         // those that are live across a call
}

// rulesOf gives the rules for a body, of whose orders it is known what is live ahead of them.
func rulesOf(b api.Body, ahead [][]int) rules {
	r := rules{apart: map[int]set{}, kept: newSet(b.Regs)}
	others := newSet(b.Regs)
	others.add(ahead[0]...)
	r.part(ahead[0], others)
	for at, o := range b.Code {
		if len(o.D) == 0 {
			continue
		}
		// An order that writes leads to the next one alone.
		clear(others)
		others.add(ahead[at+1]...)
		if o.Op == api.TCall || o.Op == api.TCallr {
			others.drop(o.D...)
			r.kept.join(others)
		}
		others.add(o.D...)
		r.part(o.D, others)
	}
	return r
}

// part says that each of a list of registers lies apart from those of a set.
func (r rules) part(registers []int, others set) {
	for _, register := range registers {
		if r.apart[register] == nil {
			r.apart[register] = make(set, len(others))
		}
		r.apart[register].join(others)
	}
}
