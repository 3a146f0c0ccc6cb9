package check

import (
	"scarfjoint/api"
	"scarfjoint/types"
)

// block goes over a block, in which some locals are there at first, and gives its number.
func (c *checker) block(n api.Node, locals map[string]api.Type) int {
	at := c.begin()
	outer, words := c.blocks, c.words
	c.blocks = append(c.blocks, locals)
	for _, kid := range n.Kids {
		c.statement(kid)
	}
	c.blocks, c.words = outer, words
	return at
}

func (c *checker) statement(n api.Node) {
	at := c.begin()
	switch n.Kind {
	case api.NVar:
		c.variable(n, at)
	case api.NSet:
		place := c.expr(n.Kids[0])
		ask(types.Same(place, c.expr(n.Kids[1])), api.ErrKind, at)
	case api.NIf, api.NWhile:
		t := c.expr(n.Kids[0])
		for _, kid := range n.Kids[1:] {
			c.block(kid, map[string]api.Type{})
		}
		ask(t.Kind == api.TInt, api.ErrKind, at)
	case api.NReturn:
		ask(types.Same(c.expr(n.Kids[0]), c.result), api.ErrKind, at)
	case api.NPut:
		ask(isNumber(c.expr(n.Kids[0])), api.ErrKind, at)
	case api.NDo:
		c.expr(n.Kids[0])
	}
}

// variable makes a local, which its own expression does not know.
func (c *checker) variable(n api.Node, at int) {
	t := c.typ(n.Kids[0])
	value := c.expr(n.Kids[1])
	locals := c.blocks[len(c.blocks)-1]
	_, twice := locals[n.Text]
	ask(!twice, api.ErrTwice, at)
	ask(types.Same(t, value), api.ErrKind, at)
	c.words += types.Words(t)
	ask(c.words <= api.MaxLocals, api.ErrSize, at)
	locals[n.Text] = t
}
