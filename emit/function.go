package emit

import (
	"slices"

	"scarfjoint/api"
	"scarfjoint/live"
	"scarfjoint/tail"
	"scarfjoint/types"
)

// maker makes a function's instructions.
type maker struct {
	*unit
	frame
	number int   // that of its symbol
	first  int   // its first instruction
	starts []int // of each order, and of the function's end behind them, how many instructions are ahead
	leads  []int // the relocs of what leads to an order: what they add is its number, till it is known where that starts
}

// function makes a body's instructions.
func (u *unit) function(number int, b api.Body) {
	tails, _ := tail.Of(b)
	m := &maker{unit: u, frame: frameOf(b, tails), number: number, first: len(u.Code)}
	made := m.enter(b)
	for at, o := range b.Code {
		m.start()
		switch {
		case at < made:
		case slices.Contains(tails, at):
			m.lastCall(o)
		case o.Op == api.TReturn:
			m.giveBack(o.S)
			if at < len(b.Code)-1 {
				m.lead(api.Instr{Op: api.IJump}, len(b.Code))
			}
		default:
			m.order(o)
		}
	}
	m.start()
	m.leave()
	m.add(api.Instr{Op: api.IJumpr, A: api.RegLR})
	for _, reloc := range m.leads {
		order := m.Relocs[reloc].Add
		m.Relocs[reloc].Add = m.starts[order]
	}
	s := &m.Symbols[number]
	s.At, s.Size, s.Frame = m.first, m.behindFirst(), m.size
}

// behindFirst tells how many instructions the function has so far.
func (m *maker) behindFirst() int {
	return len(m.Code) - m.first
}

// start says that the next order starts here.
func (m *maker) start() {
	m.starts = append(m.starts, m.behindFirst())
}

// lead is an instruction that leads to an order.
func (m *maker) lead(i api.Instr, order int) {
	m.leads = append(m.leads, len(m.Relocs))
	m.about(i, m.number, order)
}

// enter makes the frame, and brings there what the function was given, and is live at first. Where a call comes first, what it does not read waits till it has come back: for to bring all of it and then to hand words on would be more steps than one order may take (Q2). It tells how many orders are made already.
func (m *maker) enter(b api.Body) int {
	m.grow(-m.size)
	for at, l := range m.kept {
		m.move(l, m.waiting[at])
	}
	all, _ := live.Of(b)
	params := paramsOf(b.Type)
	m.arrive(params, all[0])
	now, later := split(all[0], b.Code[0])
	m.bring(params, now)
	if len(later) == 0 {
		return 0
	}
	m.call(b.Code[0])
	m.bring(params, later)
	if !slices.ContainsFunc(b.Code, leadsToFirst) {
		return 1
	}
	// Who comes to the call again has all that was brought, and has changed it.
	m.lead(api.Instr{Op: api.IJump}, 1)
	return 0
}

// split tells which registers of those that are live at first may not wait till the first order is done, and which may. Those that a call does not read are live behind it: so it does not write them, and none of them lies where its result comes back.
func split(live []int, first api.Three) (now, later []int) {
	for _, register := range live {
		if isCall(first) && !slices.Contains(first.S, register) {
			later = append(later, register)
		} else {
			now = append(now, register)
		}
	}
	return now, later
}

// leadsToFirst says whether an order leads to the first one.
func leadsToFirst(o api.Three) bool {
	return (o.Op == api.TJump || o.Op == api.TZero) && o.N == 0
}

// paramsOf gives of each parameter of a function's type the registers of its words.
func paramsOf(t api.Type) [][]int {
	var l [][]int
	next := 0
	for _, part := range t.Parts[:len(t.Parts)-1] {
		var words []int
		for range types.Words(part) {
			words = append(words, next)
			next++
		}
		l = append(l, words)
	}
	return l
}

// arrive brings the words that the function was given to their places, if they are live; of a parameter that is copied the address alone.
func (m *maker) arrive(params [][]int, live []int) {
	var from, to []api.Loc
	take := func(word, place api.Loc) {
		from, to = append(from, m.behind(word)), append(to, place)
	}
	if m.given.Result >= 0 {
		take(api.Loc{N: m.given.Result}, m.result)
	}
	if m.given.Count >= 0 {
		take(api.Loc{N: m.given.Count}, m.count)
	}
	for at, words := range params {
		if m.given.Copied[at] {
			take(m.given.Params[at][0], m.copies[at])
			continue
		}
		for i, register := range words {
			if has(live, register) {
				take(m.given.Params[at][i], m.lies[register])
			}
		}
	}
	m.moveAll(from, to)
}

// has says whether a register is one of a rising row. Those that are not live at first may lie together with others: they are not written.
func has(registers []int, register int) bool {
	_, is := slices.BinarySearch(registers, register)
	return is
}

// bring gives registers of a rising row their words, but for those that came with what arrived: from copies, or 0.
func (m *maker) bring(params [][]int, registers []int) {
	for at, words := range params {
		if m.given.Copied[at] {
			m.unpack(m.copies[at], words, registers)
		}
	}
	m.clear(registers, len(slices.Concat(params...)))
}

// unpack brings those words of a copy that are asked for to their places.
func (m *maker) unpack(address api.Loc, words, registers []int) {
	is := func(register int) bool { return has(registers, register) }
	if !slices.ContainsFunc(words, is) {
		return
	}
	m.move(address, two)
	for at, register := range words {
		if is(register) {
			m.made(register, api.Instr{Op: api.ILoad, B: two.N, Imm: at})
		}
	}
}

// clear makes registers of a rising row 0 that are no parameter's: those from a number on.
func (m *maker) clear(registers []int, from int) {
	at, _ := slices.BinarySearch(registers, from)
	if at < len(registers) {
		m.constant(tmp.N, 0)
	}
	for _, register := range registers[at:] {
		m.move(tmp, m.lies[register])
	}
}

// giveBack brings the words that the function returns where those that call look for them.
func (m *maker) giveBack(registers []int) {
	if m.given.Result >= 0 {
		m.move(m.result, two)
		for at, register := range registers {
			m.add(api.Instr{Op: api.IStore, A: m.read(register, tmp), B: two.N, Imm: at})
		}
		return
	}
	var to []api.Loc
	for _, register := range m.given.Results {
		to = append(to, api.Loc{N: register})
	}
	m.moveAll(m.places(registers), to)
}

// leave gives back the registers that are to be kept, and the frame.
func (m *maker) leave() {
	for at, l := range m.kept {
		m.move(m.waiting[at], l)
	}
	m.grow(m.size)
}

// places gives where registers lie.
func (m *maker) places(registers []int) []api.Loc {
	var l []api.Loc
	for _, register := range registers {
		l = append(l, m.lies[register])
	}
	return l
}
