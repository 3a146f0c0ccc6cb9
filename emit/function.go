package emit

import (
	"slices"

	"scarfjoint/api"
	"scarfjoint/live"
	"scarfjoint/tail"
	"scarfjoint/types"
)

// maker makes a function's instructions.
type maker struct {
	*unit
	frame
	number int   // that of its symbol
	first  int   // its first instruction
	starts []int // of each order, and of the function's end behind them, how many instructions are ahead
	leads  []int // the relocs of what leads to an order: what they add is its number, till it is known where that starts
}

// function makes a body's instructions.
func (u *unit) function(number int, b api.Body) {
	tails, _ := tail.Of(b)
	m := &maker{unit: u, frame: frameOf(b, tails), number: number, first: len(u.Code)}
	m.enter(b)
	for at, o := range b.Code {
		m.start()
		switch {
		case slices.Contains(tails, at):
			m.lastCall(o)
		case o.Op == api.TReturn:
			m.giveBack(o.S)
			if at < len(b.Code)-1 {
				m.lead(api.Instr{Op: api.IJump}, len(b.Code))
			}
		default:
			m.order(o)
		}
	}
	m.start()
	m.leave()
	m.add(api.Instr{Op: api.IJumpr, A: api.RegLR})
	for _, reloc := range m.leads {
		order := m.Relocs[reloc].Add
		m.Relocs[reloc].Add = m.starts[order]
	}
	s := &m.Symbols[number]
	s.At, s.Size, s.Frame = m.first, m.behindFirst(), m.size
}

// behindFirst tells how many instructions the function has so far.
func (m *maker) behindFirst() int {
	return len(m.Code) - m.first
}

// start says that the next order starts here.
func (m *maker) start() {
	m.starts = append(m.starts, m.behindFirst())
}

// lead is an instruction that leads to an order.
func (m *maker) lead(i api.Instr, order int) {
	m.leads = append(m.leads, len(m.Relocs))
	m.about(i, m.number, order)
}

// enter makes the frame, and brings there what the function was given.
func (m *maker) enter(b api.Body) {
	m.grow(-m.size)
	for at, l := range m.kept {
		m.move(l, m.waiting[at])
	}
	all, _ := live.Of(b)
	// Registers that are not live at first may lie together with others: they are not written.
	isLive := func(register int) bool {
		_, is := slices.BinarySearch(all[0], register)
		return is
	}
	params := paramsOf(b.Type)
	m.arrive(params, isLive)
	for at, words := range params {
		if m.given.Copied[at] {
			m.unpack(m.copies[at], words, isLive)
		}
	}
	m.clear(all[0], len(slices.Concat(params...)))
}

// paramsOf gives of each parameter of a function's type the registers of its words.
func paramsOf(t api.Type) [][]int {
	var l [][]int
	next := 0
	for _, part := range t.Parts[:len(t.Parts)-1] {
		var words []int
		for range types.Words(part) {
			words = append(words, next)
			next++
		}
		l = append(l, words)
	}
	return l
}

// arrive brings the words that the function was given to their places; of a parameter that is copied the address alone.
func (m *maker) arrive(params [][]int, isLive func(int) bool) {
	var from, to []api.Loc
	bring := func(word, place api.Loc) {
		from, to = append(from, m.behind(word)), append(to, place)
	}
	if m.given.Result >= 0 {
		bring(api.Loc{N: m.given.Result}, m.result)
	}
	if m.given.Count >= 0 {
		bring(api.Loc{N: m.given.Count}, m.count)
	}
	for at, words := range params {
		if m.given.Copied[at] {
			bring(m.given.Params[at][0], m.copies[at])
			continue
		}
		for i, register := range words {
			if isLive(register) {
				bring(m.given.Params[at][i], m.lies[register])
			}
		}
	}
	m.moveAll(from, to)
}

// unpack brings the words of a copy to their places.
func (m *maker) unpack(address api.Loc, words []int, isLive func(int) bool) {
	m.move(address, two)
	for at, register := range words {
		if isLive(register) {
			m.made(register, api.Instr{Op: api.ILoad, B: two.N, Imm: at})
		}
	}
}

// clear makes registers 0 that are live at first, and are no parameter's: those behind a number.
func (m *maker) clear(live []int, behind int) {
	at, _ := slices.BinarySearch(live, behind)
	if at < len(live) {
		m.constant(tmp.N, 0)
	}
	for _, register := range live[at:] {
		m.move(tmp, m.lies[register])
	}
}

// giveBack brings the words that the function returns where those that call look for them.
func (m *maker) giveBack(registers []int) {
	if m.given.Result >= 0 {
		m.move(m.result, two)
		for at, register := range registers {
			m.add(api.Instr{Op: api.IStore, A: m.read(register, tmp), B: two.N, Imm: at})
		}
		return
	}
	var to []api.Loc
	for _, register := range m.given.Results {
		to = append(to, api.Loc{N: register})
	}
	m.moveAll(m.places(registers), to)
}

// leave gives back the registers that are to be kept, and the frame.
func (m *maker) leave() {
	for at, l := range m.kept {
		m.move(m.waiting[at], l)
	}
	m.grow(m.size)
}

// places gives where registers lie.
func (m *maker) places(registers []int) []api.Loc {
	var l []api.Loc
	for _, register := range registers {
		l = append(l, m.lies[register])
	}
	return l
}
