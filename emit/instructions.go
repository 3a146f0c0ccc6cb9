package emit

import (
	"scarfjoint/api"
	"scarfjoint/code"
	"scarfjoint/moves"
)

// Registers of the machine in which none of a body lies.
var (
	tmp  = api.Loc{N: api.RegTmp} // for a word that is used at once, and for rows of moves
	two  = api.Loc{N: api.RegTwo} // for a second one, and between two places of the stack
	link = api.Loc{N: api.RegLR}  // where a call comes back to
)

// add is the next instruction.
func (u *unit) add(i api.Instr) {
	room(len(u.Code) < api.MaxCode)
	bits, _ := code.Encode(i)
	u.Code = append(u.Code, bits)
}

// about is the next instruction, whose number is an address: that of a symbol, or so much behind it.
func (u *unit) about(i api.Instr, symbol, behind int) {
	u.Relocs = append(u.Relocs, api.Reloc{At: len(u.Code), Symbol: symbol, Add: behind})
	u.add(i)
}

// constant gives a register of the machine a number.
func (u *unit) constant(register, n int) {
	low := int(int16(n))
	u.add(api.Instr{Op: api.IMovi, A: register, Imm: low})
	if low != n {
		u.add(api.Instr{Op: api.IMovh, A: register, Imm: int(uint32(n) >> 16)})
	}
}

// move brings a word from a place to another one.
func (u *unit) move(from, to api.Loc) {
	switch {
	case from == to:
	case from.Stack && to.Stack:
		u.move(from, two)
		u.move(two, to)
	case from.Stack:
		u.add(api.Instr{Op: api.ILoad, A: to.N, B: api.RegSP, Imm: from.N})
	case to.Stack:
		u.add(api.Instr{Op: api.IStore, A: from.N, B: api.RegSP, Imm: to.N})
	default:
		u.add(api.Instr{Op: api.IMov, A: to.N, B: from.N})
	}
}

// moveAll brings words from places to others, all at once. A frame and a stack area have no place of which moves.Row does not know, and a call has no more words than it takes.
func (u *unit) moveAll(from, to []api.Loc) {
	var l []api.Move
	for at := range from {
		l = append(l, api.Move{From: from[at], To: to[at]})
	}
	l, _ = moves.Row(l, api.RegTmp)
	for _, m := range l {
		u.move(m.From, m.To)
	}
}

// grow moves the end of the stack by so many words.
func (u *unit) grow(words int) {
	if words != 0 {
		u.add(api.Instr{Op: api.IAddi, A: api.RegSP, B: api.RegSP, Imm: words})
	}
}
