package model

import (
	"slices"

	"scarfjoint/api"
)

// call is one that has not returned yet.
type call struct {
	*program
	unit
	blocks []map[string]int // the places of names among the locals, the innermost block's last
	locals []value
	beyond []int32
}

// returned is thrown where a call ends, and ended where the run does: its number is one of api's.
type (
	returned struct{ value }
	ended    int
)

// run calls main.
func (p *program) run() {
	defer func() {
		if how, ok := recover().(ended); ok {
			p.End = int(how)
		}
	}()
	v := p.result(p.open["main"], nil)
	p.End, p.Value = api.RunExit, int32(v.number)
}

// end ends the run.
func (p *program) end(how int) {
	p.over = true
	panic(ended(how))
}

// step counts one, if there is fuel for it.
func (p *program) step() {
	if p.Steps == p.fuel {
		p.end(api.RunFuel)
	}
	p.Steps++
}

// result calls a function, and has what that returns.
func (p *program) result(place int, arguments []value) (v value) {
	defer func() {
		// An end of the run is not held up here: to throw it anew in each call would pile them all up.
		if p.over {
			return
		}
		if thrown, ok := recover().(returned); ok {
			v = thrown.value
		}
	}()
	f := p.things[place]
	block := len(f.Kids) - 1
	params := f.Kids[:block-1]
	names := map[string]int{}
	for at, param := range params {
		names[param.Text] = at
	}
	c := &call{
		program: p,
		unit:    p.units[f.unit],
		locals:  slices.Clone(arguments[:len(params)]),
		beyond:  words(arguments[len(params):]...),
	}
	c.block(f.Kids[block], names)
	return v
}

// block does a block, in which some locals have names at first.
func (c *call) block(n api.Node, names map[string]int) {
	outer, locals := c.blocks, len(c.locals)
	c.blocks = append(c.blocks, names)
	for _, kid := range n.Kids {
		c.statement(kid)
	}
	c.blocks, c.locals = outer, c.locals[:locals]
}

func (c *call) statement(n api.Node) {
	c.step()
	switch n.Kind {
	case api.NVar:
		v := c.expr(n.Kids[1])
		c.blocks[len(c.blocks)-1][n.Text] = len(c.locals)
		c.locals = append(c.locals, v)
	case api.NSet:
		c.set(n.Kids[0], c.expr(n.Kids[1]))
	case api.NIf:
		if c.holds(n.Kids[0]) {
			c.block(n.Kids[1], map[string]int{})
		} else if len(n.Kids) > 2 {
			c.block(n.Kids[2], map[string]int{})
		}
	case api.NWhile:
		for c.holds(n.Kids[0]) {
			c.block(n.Kids[1], map[string]int{})
		}
	case api.NPut:
		// The expression may tell words itself: Out is asked for behind it.
		v := c.expr(n.Kids[0])
		c.Out = append(c.Out, words(v)...)
	case api.NDo:
		c.expr(n.Kids[0])
	case api.NReturn:
		panic(returned{c.expr(n.Kids[0])})
	}
}

// holds does a condition.
func (c *call) holds(n api.Node) bool {
	return c.expr(n).number != 0
}

// set makes a variable, or a field of it, another value. The place is found, but not done: it counts no steps.
func (c *call) set(place api.Node, v value) {
	var path []string
	for place.Kind == api.NDot {
		path = append(path, place.Text)
		place = place.Kids[0]
	}
	at := c.variable(place.Text)
	*at = at.with(path, v)
}

// variable finds where a variable's value stands.
func (c *call) variable(name string) *value {
	if place, ok := c.local(name); ok {
		return &c.locals[place]
	}
	return &c.things[c.meant[name]].now
}

// local finds the innermost local of a name.
func (c *call) local(name string) (int, bool) {
	for _, names := range slices.Backward(c.blocks) {
		if place, ok := names[name]; ok {
			return place, true
		}
	}
	return 0, false
}
