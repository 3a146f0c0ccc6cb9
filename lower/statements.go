package lower

import (
	"slices"

	"scarfjoint/api"
)

// block makes the orders of a block, in which some locals are there at first.
func (m *maker) block(n api.Node, locals map[string]value) {
	m.blocks = append(m.blocks, locals)
	defer m.leave()
	for _, kid := range n.Kids {
		m.statement(kid)
	}
}

// leave gives back the registers of the innermost block's locals.
func (m *maker) leave() {
	last := len(m.blocks) - 1
	for _, v := range m.blocks[last] {
		m.mark(free, v.words)
	}
	m.blocks = m.blocks[:last]
}

func (m *maker) statement(n api.Node) {
	switch n.Kind {
	case api.NIf:
		m.choice(n)
		return
	case api.NWhile:
		m.loop(n)
		return
	}
	v := m.expr(n.Kids[len(n.Kids)-1])
	defer m.give(v.words...)
	switch n.Kind {
	case api.NVar:
		m.keep(n.Text, v)
	case api.NSet:
		m.set(n.Kids[0], v)
	case api.NPut:
		for _, register := range v.words {
			m.order(api.Three{Op: api.TPut, S: []int{register}})
		}
	case api.NReturn:
		m.order(api.Three{Op: api.TReturn, S: filled(v)})
	}
}

// keep makes a local of a value: registers that are no local's yet become its own, words of others are copied.
func (m *maker) keep(name string, v value) {
	words := slices.Clone(v.words)
	for at, register := range words {
		if register != none && m.uses[register] == kept {
			words[at] = m.copied(register)
		}
	}
	m.mark(kept, words)
	m.blocks[len(m.blocks)-1][name] = value{v.Type, words}
}

// set gives a variable, or a field of it, another value.
func (m *maker) set(place api.Node, v value) {
	// What has fields is a local: a global variable is a number.
	if _, ok := m.local(place.Text); place.Kind == api.NName && !ok {
		for at, register := range v.words {
			m.order(api.Three{Op: api.TStore, S: []int{register}, Name: place.Text, N: at})
		}
		return
	}
	m.lay(m.expr(place).words, v.words)
}

// lay copies words into a local's registers as if all at once: one that is read only behind its own change is saved ahead of all.
func (m *maker) lay(to, from []int) {
	from = slices.Clone(from)
	for at, register := range from {
		if register != none && slices.Contains(to[:at], register) {
			from[at] = m.copied(register)
			defer m.give(from[at])
		}
	}
	for at, register := range from {
		if register != none && to[at] != none && register != to[at] {
			m.order(api.Three{Op: api.TCopy, D: []int{to[at]}, S: []int{register}})
		}
	}
}

// unless makes an order that leads elsewhere, if a condition is 0, and gives its number: where to is not known yet.
func (m *maker) unless(condition api.Node) int {
	v := m.expr(condition)
	defer m.give(v.words...)
	return m.order(api.Three{Op: api.TZero, S: []int{v.words[0]}})
}

// lead makes an order lead to the next one that is made.
func (m *maker) lead(at int) {
	m.Code[at].N = len(m.Code)
}

func (m *maker) choice(n api.Node) {
	skip := m.unless(n.Kids[0])
	m.block(n.Kids[1], map[string]value{})
	if len(n.Kids) > 2 {
		end := m.order(api.Three{Op: api.TJump})
		m.lead(skip)
		m.block(n.Kids[2], map[string]value{})
		skip = end
	}
	m.lead(skip)
}

func (m *maker) loop(n api.Node) {
	start := len(m.Code)
	end := m.unless(n.Kids[0])
	m.block(n.Kids[1], map[string]value{})
	m.order(api.Three{Op: api.TJump, N: start})
	m.lead(end)
}
