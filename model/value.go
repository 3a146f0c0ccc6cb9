package model

import (
	"slices"

	"scarfjoint/api"
	"scarfjoint/word"
)

// value is what an expression has: nothing changes one, so that two may share what they are made of.
type value struct {
	kind   int      // its type's
	number int64    // of an int or a long; of a function its place among the program's things
	names  []string // of a struct its fields
	parts  []value
}

func whole(n int32) value {
	return value{kind: api.TInt, number: int64(n)}
}

func long(n int64) value {
	return value{kind: api.TLong, number: n}
}

func truth(yes bool) value {
	if yes {
		return whole(1)
	}
	return whole(0)
}

// number is the value of an NNumber or NLong.
func number(n api.Node) value {
	if n.Kind == api.NLong {
		return long(n.Num)
	}
	return whole(int32(n.Num))
}

// part is a struct's field.
func (v value) part(name string) value {
	return v.parts[slices.Index(v.names, name)]
}

// with is a value of which the part at the end of a path is another one; the path is given from its end on.
func (v value) with(path []string, part value) value {
	last := len(path) - 1
	if last < 0 {
		return part
	}
	at := slices.Index(v.names, path[last])
	v.parts = slices.Clone(v.parts)
	v.parts[at] = v.parts[at].with(path[:last], part)
	return v
}

// negated is 0 less a number.
func negated(v value) value {
	if v.kind == api.TLong {
		return long(-v.number)
	}
	return whole(-int32(v.number))
}

// operation is what an NOp has of two numbers, and whether it has anything.
func operation(op int, a, b value) (value, bool) {
	if a.kind == api.TInt {
		n, ok := word.Op(op, int32(a.number), int32(b.number))
		return whole(n), ok
	}
	n, ok := word.Wide(op, a.number, b.number)
	if op == api.OpSame || op == api.OpLess {
		return whole(int32(n)), ok
	}
	return long(n), ok
}

// words are those of numbers, one behind the other.
func words(l ...value) []int32 {
	var all []int32
	for _, v := range l {
		low, high := word.Split(v.number)
		all = append(all, low)
		if v.kind == api.TLong {
			all = append(all, high)
		}
	}
	return all
}
