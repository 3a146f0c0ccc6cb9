package check

import (
	"slices"

	"scarfjoint/api"
	"scarfjoint/types"
)

// expr goes over an expression, and keeps its type.
func (c *checker) expr(n api.Node) api.Type {
	at := c.begin()
	var kids []api.Type
	for i, kid := range n.Kids {
		if n.Kind == api.NCall && i == 0 {
			kids = append(kids, c.called(kid))
		} else {
			kids = append(kids, c.expr(kid))
		}
	}
	c.known[at] = c.value(n, at, kids)
	return c.known[at]
}

// called goes over what is called: there alone a function's name stands for the function.
func (c *checker) called(n api.Node) api.Type {
	m := c.declared[n.Text]
	if _, hidden := c.local(n.Text); n.Kind != api.NName || hidden || !m.function {
		return c.expr(n)
	}
	at := c.begin()
	c.known[at] = m.Type
	return m.Type
}

// local finds the innermost local of a name.
func (c *checker) local(name string) (api.Type, bool) {
	for _, locals := range slices.Backward(c.blocks) {
		if t, ok := locals[name]; ok {
			return t, true
		}
	}
	return api.Type{}, false
}

// value is an expression's type, of its kids' types.
func (c *checker) value(n api.Node, at int, kids []api.Type) api.Type {
	whole, long := api.Type{Kind: api.TInt}, api.Type{Kind: api.TLong}
	switch n.Kind {
	case api.NLong:
		return long
	case api.NName:
		return c.name(n.Text, at)
	case api.NAddr:
		m := c.declared[n.Text]
		ask(m.function, api.ErrName, at)
		return m.Type
	case api.NDot:
		return field(n.Text, at, kids[0])
	case api.NMake:
		return c.made(n.Text, at, kids)
	case api.NCall:
		return result(at, kids[0], kids[1:])
	case api.NNeg:
		ask(isNumber(kids[0]), api.ErrKind, at)
		return kids[0]
	case api.NNot:
		ask(kids[0].Kind == api.TInt, api.ErrKind, at)
	case api.NToInt:
		ask(isNumber(kids[0]), api.ErrKind, at)
	case api.NToLong:
		ask(isNumber(kids[0]), api.ErrKind, at)
		return long
	case api.NOp:
		return operation(n.Num, at, kids[0], kids[1])
	case api.NCount:
		ask(c.many, api.ErrForm, at)
	case api.NExtra:
		ask(c.many, api.ErrForm, at)
		ask(kids[0].Kind == api.TInt, api.ErrKind, at)
	}
	return whole
}

// name is the type of a variable.
func (c *checker) name(name string, at int) api.Type {
	if t, ok := c.local(name); ok {
		return t
	}
	m, ok := c.declared[name]
	ask(ok, api.ErrName, at)
	ask(!m.function, api.ErrKind, at)
	return m.Type
}

func field(name string, at int, t api.Type) api.Type {
	ask(t.Kind == api.TStruct, api.ErrKind, at)
	i := slices.Index(t.Names, name)
	ask(i >= 0, api.ErrName, at)
	return t.Parts[i]
}

// made is the struct that a name and its fields' values make.
func (c *checker) made(name string, at int, values []api.Type) api.Type {
	t := c.structOf(name, at)
	ask(len(values) == len(t.Parts), api.ErrRange, at)
	for i, part := range t.Parts {
		ask(types.Same(values[i], part), api.ErrKind, at)
	}
	return t
}

// result is what a call of a type's function with some arguments has as its value.
func result(at int, t api.Type, arguments []api.Type) api.Type {
	ask(t.Kind == api.TFn, api.ErrKind, at)
	params := len(t.Parts) - 1
	beyond := len(arguments) - params
	ask(beyond == 0 || beyond > 0 && t.Many, api.ErrRange, at)
	for i, argument := range arguments {
		if i < params {
			ask(types.Same(argument, t.Parts[i]), api.ErrKind, at)
		} else {
			ask(isNumber(argument), api.ErrKind, at)
		}
	}
	ask(beyond <= api.MaxParams, api.ErrSize, at)
	return t.Parts[params]
}

func operation(op int64, at int, left, right api.Type) api.Type {
	ask(isNumber(left) && types.Same(left, right), api.ErrKind, at)
	switch op {
	case api.OpDiv, api.OpRem:
		ask(left.Kind == api.TInt, api.ErrKind, at)
	case api.OpSame, api.OpLess:
		return api.Type{Kind: api.TInt}
	}
	return left
}
