package emit

import "scarfjoint/api"

// read gives the machine's register in which a register's word is: the one where it lies, or a spare one to which it is brought.
func (m *maker) read(register int, spare api.Loc) int {
	l := m.lies[register]
	if l.Stack {
		m.move(l, spare)
		return spare.N
	}
	return l.N
}

// made has an instruction make a register's word; its field A is found here.
func (m *maker) made(register int, i api.Instr) {
	m.makes(register, func(a int) {
		i.A = a
		m.add(i)
	})
}

// makes has instructions make a register's word, which are told in which of the machine's registers.
func (m *maker) makes(register int, with func(a int)) {
	l := m.lies[register]
	if l.Stack {
		with(tmp.N)
		m.move(tmp, l)
		return
	}
	with(l.N)
}

// order makes the instructions of an order that ends no call.
func (m *maker) order(o api.Three) {
	switch o.Op {
	case api.TConst:
		m.makes(o.D[0], func(a int) { m.constant(a, o.N) })
	case api.TCopy:
		m.move(m.lies[o.S[0]], m.lies[o.D[0]])
	case api.TWord:
		b := m.read(o.S[0], tmp)
		c := m.read(o.S[1], two)
		m.made(o.D[0], api.Instr{Op: api.IOp + o.N, B: b, C: c})
	case api.TLoad:
		m.address(tmp.N, o.Name, o.N)
		m.made(o.D[0], api.Instr{Op: api.ILoad, B: tmp.N})
	case api.TStore:
		a := m.read(o.S[0], two)
		m.address(tmp.N, o.Name, o.N)
		m.add(api.Instr{Op: api.IStore, A: a, B: tmp.N})
	case api.TAddr:
		m.makes(o.D[0], func(a int) { m.address(a, o.Name, 0) })
	case api.TCall, api.TCallr:
		m.call(o)
	case api.TJump:
		m.lead(api.Instr{Op: api.IJump}, o.N)
	case api.TZero:
		m.lead(api.Instr{Op: api.IZero, A: m.read(o.S[0], tmp)}, o.N)
	case api.TPut:
		m.add(api.Instr{Op: api.IOut, A: m.read(o.S[0], tmp)})
	case api.TCount:
		m.move(m.count, m.lies[o.D[0]])
	case api.TExtra:
		m.extra(o)
	}
}

// address gives a register of the machine the address of what has a name, or so much behind it.
func (m *maker) address(register int, name string, behind int) {
	m.about(api.Instr{Op: api.IMovi, A: register}, m.numbers[name], behind)
}

// extra makes a register one of the words beyond, or 0, where there is none of that number: without its sign, one below 0 is as great as those are.
func (m *maker) extra(o api.Three) {
	at := m.read(o.S[0], two)
	m.move(m.count, tmp)
	m.add(api.Instr{Op: api.IOp + api.OpLow, A: tmp.N, B: at, C: tmp.N})
	// Over the next two, with the 0 that was found.
	m.about(api.Instr{Op: api.IZero, A: tmp.N}, m.number, m.behindFirst()+3)
	m.add(api.Instr{Op: api.IOp + api.OpAdd, A: tmp.N, B: api.RegSP, C: at})
	m.add(api.Instr{Op: api.ILoad, A: tmp.N, B: tmp.N, Imm: m.size + m.given.Extra})
	m.move(tmp, m.lies[o.D[0]])
}

// call makes one that comes back here.
func (m *maker) call(o api.Three) {
	p := parcelOf(o)
	m.hand(o, p.words)
	for _, l := range p.laid {
		m.lay(l.From, l.To)
	}
	if p.Count >= 0 {
		m.constant(p.Count, p.beyond)
	}
	if o.Op == api.TCallr {
		m.add(api.Instr{Op: api.ICallr, A: link.N})
	} else {
		m.about(api.Instr{Op: api.ICall}, m.numbers[o.Name], 0)
	}
	m.moveAll(p.back, m.places(o.D))
}

// hand brings a call's words to places, and a word that is called to where it would come back: no word of a call is handed there, and the function's own way back waits in its frame.
func (m *maker) hand(o api.Three, to []api.Loc) {
	from := m.places(arguments(o))
	if o.Op == api.TCallr {
		from, to = append(from, m.lies[o.S[0]]), append(to, link)
	}
	m.moveAll(from, to)
}

// lay brings the address of a word of the frame to a place.
func (m *maker) lay(word, to api.Loc) {
	register := to
	if to.Stack {
		register = tmp
	}
	m.add(api.Instr{Op: api.IAddi, A: register.N, B: api.RegSP, Imm: word.N})
	m.move(register, to)
}

// lastCall makes one at the tail, which is handed its words where the function's own were, and comes back to where that would.
func (m *maker) lastCall(o api.Three) {
	var to []api.Loc
	for _, l := range parcelOf(o).words {
		to = append(to, m.behind(l))
	}
	m.hand(o, to)
	if o.Op == api.TCallr {
		m.move(link, tmp)
	}
	m.leave()
	if o.Op == api.TCallr {
		m.add(api.Instr{Op: api.IJumpr, A: tmp.N})
	} else {
		m.about(api.Instr{Op: api.IJump}, m.numbers[o.Name], 0)
	}
}
