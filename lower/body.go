package lower

import (
	"slices"

	"scarfjoint/api"
	"scarfjoint/types"
)

// maker makes a function's body.
type maker struct {
	api.Body
	*unit
	blocks []map[string]value // the locals, the innermost block's last
	uses   []use              // of each register
}

// use is what a register is used for.
type use int

const (
	free    use = iota
	passing     // a part of a value, till that is given back
	kept        // a local's, till its block ends
)

// value is what an expression has: which registers its words are in. Nothing changes a local within an expression, so that a local's own registers stand for its value.
type value struct {
	api.Type
	words []int
}

// none stands for the register of a word between fields, which no one asks for.
const none = -1

// body makes the one of a function with a block.
func (u *unit) body(n api.Node, t api.Type) api.Body {
	m := &maker{Body: api.Body{Name: n.Text, Static: isStatic(n), Type: t}, unit: u}
	block := len(n.Kids) - 1
	params := map[string]value{}
	for at, param := range n.Kids[:block-1] {
		v := value{t.Parts[at], m.take(types.Words(t.Parts[at]))}
		m.mark(kept, v.words)
		params[param.Text] = v
	}
	m.block(n.Kids[block], params)
	return m.Body
}

// take takes the lowest registers that are free.
func (m *maker) take(count int) []int {
	var l []int
	for register := 0; len(l) < count; register++ {
		if register == m.Regs {
			m.Regs++
			m.uses = append(m.uses, free)
		}
		if m.uses[register] == free {
			m.uses[register] = passing
			l = append(l, register)
		}
	}
	return l
}

// mark says what registers are used for from now on.
func (m *maker) mark(as use, registers []int) {
	for _, register := range registers {
		if register != none {
			m.uses[register] = as
		}
	}
}

// give gives registers back; those of locals stay theirs.
func (m *maker) give(registers ...int) {
	for _, register := range registers {
		if register != none && m.uses[register] == passing {
			m.uses[register] = free
		}
	}
}

// order is the next one; it gives its number.
func (m *maker) order(o api.Three) int {
	m.Code = append(m.Code, o)
	return len(m.Code) - 1
}

// made is a register of which an order makes the word.
func (m *maker) made(o api.Three) int {
	o.D = m.take(1)
	m.order(o)
	return o.D[0]
}

// copied is another register with a register's word.
func (m *maker) copied(register int) int {
	return m.made(api.Three{Op: api.TCopy, S: []int{register}})
}

// local finds the innermost local of a name.
func (m *maker) local(name string) (value, bool) {
	for _, locals := range slices.Backward(m.blocks) {
		if v, ok := locals[name]; ok {
			return v, true
		}
	}
	return value{}, false
}

// filled are a value's registers where each word needs one: any will do for a word between fields, and the first word is never such a one.
func filled(v value) []int {
	l := slices.Clone(v.words)
	for at, register := range l {
		if register == none {
			l[at] = l[0]
		}
	}
	return l
}
