package lower

import (
	"slices"

	"scarfjoint/api"
)

// word is a register with what an operation tells of two registers' words.
func (m *maker) word(op, a, b int) int {
	return m.made(api.Three{Op: api.TWord, S: []int{a, b}, N: op})
}

// joined is the same, of registers that are given back behind it.
func (m *maker) joined(op, a, b int) int {
	defer m.give(a, b)
	return m.word(op, a, b)
}

// operation is what one tells of two numbers of a type, which are given back behind it.
func (m *maker) operation(op int, a, b value) value {
	defer m.give(slices.Concat(a.words, b.words)...)
	if a.Kind == api.TInt {
		return whole(m.word(op, a.words[0], b.words[0]))
	}
	return m.wide(op, a.words, b.words)
}

// wide is what an operation tells of two longs.
func (m *maker) wide(op int, a, b []int) value {
	low := func(op int) int { return m.word(op, a[0], b[0]) }
	high := func(op int) int { return m.word(op, a[1], b[1]) }
	switch op {
	case api.OpAdd:
		// The lower words went beyond their bits, if their sum is lower than each of them.
		sum := low(api.OpAdd)
		carry := m.word(api.OpLow, sum, a[0])
		return long(sum, m.joined(api.OpAdd, high(api.OpAdd), carry))
	case api.OpSub:
		borrow := low(api.OpLow)
		return long(low(api.OpSub), m.joined(api.OpSub, high(api.OpSub), borrow))
	case api.OpMul:
		// The product of the upper words lies beyond all bits.
		crosswise := m.joined(api.OpAdd, m.word(api.OpMul, a[0], b[1]), m.word(api.OpMul, a[1], b[0]))
		return long(low(api.OpMul), m.joined(api.OpAdd, low(api.OpHigh), crosswise))
	case api.OpLess:
		// The lower words count, without signs, where the upper ones are the same.
		lower := m.joined(api.OpAnd, high(api.OpSame), low(api.OpLow))
		return whole(m.joined(api.OpOr, high(api.OpLess), lower))
	case api.OpSame:
		return whole(m.joined(api.OpAnd, low(api.OpSame), high(api.OpSame)))
	}
	return long(low(op), high(op))
}
