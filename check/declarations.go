package check

import (
	"slices"

	"scarfjoint/api"
	"scarfjoint/types"
)

func (c *checker) unit() {
	c.begin()
	for _, n := range c.Kids {
		switch n.Kind {
		case api.NStruct:
			c.structure(n)
		case api.NOutside, api.NGlobal:
			c.global(n)
		case api.NExtern:
			c.extern(n)
		case api.NFun:
			c.function(n)
		}
	}
}

// typ goes over a type's node.
func (c *checker) typ(n api.Node) api.Type {
	at := c.begin()
	switch n.Kind {
	case api.NInt:
		return api.Type{Kind: api.TInt}
	case api.NLongT:
		return api.Type{Kind: api.TLong}
	case api.NNamed:
		return c.structOf(n.Text, at)
	}
	t := api.Type{Kind: api.TFn, Many: n.Num == 1}
	for _, kid := range n.Kids {
		t.Parts = append(t.Parts, c.typ(kid))
	}
	ask(types.May(t), api.ErrSize, at)
	return t
}

// structOf is the struct of a name, of which the node with a number speaks.
func (c *checker) structOf(name string, at int) api.Type {
	t, ok := c.structs[name]
	ask(ok, api.ErrName, at)
	return t
}

// typed goes over fields or parameters: no two of them have one name.
func (c *checker) typed(l []api.Node) (names []string, parts []api.Type) {
	for _, n := range l {
		at := c.begin()
		parts = append(parts, c.typ(n.Kids[0]))
		ask(!slices.Contains(names, n.Text), api.ErrTwice, at)
		names = append(names, n.Text)
	}
	return names, parts
}

func (c *checker) structure(n api.Node) {
	at := c.begin()
	t := api.Type{Kind: api.TStruct, Name: n.Text}
	t.Names, t.Parts = c.typed(n.Kids)
	_, twice := c.structs[n.Text]
	ask(!twice, api.ErrTwice, at)
	ask(types.May(t), api.ErrSize, at)
	c.structs[n.Text] = t
}

// fresh asks that a name is not declared yet.
func (c *checker) fresh(name string, at int) {
	_, twice := c.declared[name]
	ask(!twice, api.ErrTwice, at)
}

func (c *checker) global(n api.Node) {
	at := c.begin()
	t := c.typ(n.Kids[0])
	value := t
	if n.Kind == api.NGlobal {
		// The number is no expression: its type counts here, but is not kept.
		value = c.value(n.Kids[1], c.begin(), nil)
	}
	c.fresh(n.Text, at)
	ask(isNumber(t) && types.Same(t, value), api.ErrKind, at)
	c.declared[n.Text] = meaning{Type: t}
}

func (c *checker) extern(n api.Node) {
	at := c.begin()
	last := len(n.Kids) - 1
	_, parts := c.typed(n.Kids[:last])
	c.declare(n, at, append(parts, c.typ(n.Kids[last])), n.Num == 1)
}

// declare makes a function known, of its parameters' types and its result's.
func (c *checker) declare(n api.Node, at int, parts []api.Type, many bool) {
	c.fresh(n.Text, at)
	t := api.Type{Kind: api.TFn, Parts: parts, Many: many}
	ask(types.May(t), api.ErrSize, at)
	c.declared[n.Text] = meaning{Type: t, function: true}
}

// function goes over one with a block, which may speak of the function itself.
func (c *checker) function(n api.Node) {
	at := c.begin()
	last := len(n.Kids) - 1
	names, parts := c.typed(n.Kids[:last-1])
	c.body = body{result: c.typ(n.Kids[last-1]), many: n.Num >= 2}
	locals := map[string]api.Type{}
	for i, part := range parts {
		locals[names[i]] = part
		c.words += types.Words(part)
	}
	c.declare(n, at, append(parts, c.result), c.many)
	ask(c.words <= api.MaxLocals, api.ErrSize, at)
	at = c.block(n.Kids[last], locals)
	ask(returns(n.Kids[last]), api.ErrForm, at)
}

// returns says whether a block's last statement is a return.
func returns(block api.Node) bool {
	last := len(block.Kids) - 1
	return last >= 0 && block.Kids[last].Kind == api.NReturn
}
