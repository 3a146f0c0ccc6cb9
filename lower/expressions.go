package lower

import (
	"slices"

	"scarfjoint/api"
	"scarfjoint/types"
	"scarfjoint/word"
)

func whole(register int) value {
	return value{api.Type{Kind: api.TInt}, []int{register}}
}

func long(low, high int) value {
	return value{api.Type{Kind: api.TLong}, []int{low, high}}
}

// expr makes the orders of an expression.
func (m *maker) expr(n api.Node) value {
	switch n.Kind {
	case api.NNumber, api.NLong:
		return m.number(n)
	case api.NName:
		return m.variable(n.Text)
	case api.NAddr:
		return value{m.things[n.Text], []int{m.made(api.Three{Op: api.TAddr, Name: n.Text})}}
	case api.NMake:
		return m.structure(n)
	case api.NCall:
		return m.call(n)
	case api.NOp:
		a := m.expr(n.Kids[0])
		return m.operation(int(n.Num), a, m.expr(n.Kids[1]))
	case api.NCount:
		return whole(m.made(api.Three{Op: api.TCount}))
	}
	return m.unary(n, m.expr(n.Kids[0]))
}

// unary makes what an expression has of its one kid.
func (m *maker) unary(n api.Node, v value) value {
	switch n.Kind {
	case api.NDot:
		return m.field(v, n.Text)
	case api.NNeg:
		return m.operation(api.OpSub, m.zero(v.Type), v)
	case api.NNot:
		return m.operation(api.OpSame, v, m.zero(v.Type))
	case api.NToInt:
		m.give(v.words[1:]...)
		return whole(v.words[0])
	case api.NToLong:
		return m.widened(v)
	}
	defer m.give(v.words...)
	return whole(m.made(api.Three{Op: api.TExtra, S: slices.Clone(v.words)}))
}

// constant is a register with a number.
func (m *maker) constant(n int32) int {
	return m.made(api.Three{Op: api.TConst, N: int(n)})
}

func (m *maker) number(n api.Node) value {
	low, high := word.Split(n.Num)
	v := whole(m.constant(low))
	if n.Kind == api.NLong {
		return long(v.words[0], m.constant(high))
	}
	return v
}

// zero is 0 of a number's type: of a long one register is both words.
func (m *maker) zero(t api.Type) value {
	register := m.constant(0)
	if t.Kind == api.TLong {
		return long(register, register)
	}
	return whole(register)
}

// widened is a number as a long: above a word below 0 stands -1, above others 0.
func (m *maker) widened(v value) value {
	if v.Kind == api.TLong {
		return v
	}
	zero := m.constant(0)
	below := m.word(api.OpLess, v.words[0], zero)
	return long(v.words[0], m.joined(api.OpSub, zero, below))
}

// variable is what one has: a global one is read here and now, for what is done next may change it.
func (m *maker) variable(name string) value {
	if v, ok := m.local(name); ok {
		return v
	}
	v := value{Type: m.things[name]}
	for at := range types.Words(v.Type) {
		v.words = append(v.words, m.made(api.Three{Op: api.TLoad, Name: name, N: at}))
	}
	return v
}

// structure is a struct of its fields' words, which stay where they are.
func (m *maker) structure(n api.Node) value {
	t := m.structs[n.Text]
	words := slices.Repeat([]int{none}, types.Words(t))
	for at, place := range types.Places(t) {
		copy(words[place:], m.expr(n.Kids[at]).words)
	}
	return value{t, words}
}

// field is one of a struct; the words of all others are given back.
func (m *maker) field(v value, name string) value {
	at := slices.Index(v.Names, name)
	from := types.Places(v.Type)[at]
	to := from + types.Words(v.Parts[at])
	m.give(v.words[:from]...)
	m.give(v.words[to:]...)
	return value{v.Parts[at], v.words[from:to]}
}

// call makes one, of a function by its name, or of what an expression has.
func (m *maker) call(n api.Node) value {
	f := n.Kids[0]
	o := api.Three{Op: api.TCall, Name: f.Text, Type: m.things[f.Text]}
	if _, ok := m.local(f.Text); f.Kind != api.NName || ok {
		v := m.expr(f)
		defer m.give(v.words...)
		o = api.Three{Op: api.TCallr, S: slices.Clone(v.words), Type: v.Type}
	}
	for _, kid := range n.Kids[1:] {
		v := m.expr(kid)
		defer m.give(v.words...)
		o.S = append(o.S, filled(v)...)
	}
	result := o.Type.Parts[len(o.Type.Parts)-1]
	o.Type = types.Clone(o.Type)
	o.D = m.take(types.Words(result))
	m.order(o)
	return value{result, slices.Clone(o.D)}
}
