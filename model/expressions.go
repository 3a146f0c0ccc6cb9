package model

import "scarfjoint/api"

// expr does an expression.
func (c *call) expr(n api.Node) value {
	c.step()
	if n.Kind == api.NCall {
		return c.result(c.callee(n.Kids[0]), c.all(n.Kids[1:]))
	}
	return c.value(n, c.all(n.Kids))
}

// all does expressions, one behind the other.
func (c *call) all(l []api.Node) []value {
	var values []value
	for _, n := range l {
		values = append(values, c.expr(n))
	}
	return values
}

// callee finds the function that is called: its name is no expression that is done, a variable's is.
func (c *call) callee(n api.Node) int {
	if _, variable := c.local(n.Text); n.Kind == api.NName && !variable {
		return c.meant[n.Text]
	}
	return int(c.expr(n).number)
}

// value is what an expression has, of its kids' values.
func (c *call) value(n api.Node, kids []value) value {
	switch n.Kind {
	case api.NName:
		return *c.variable(n.Text)
	case api.NAddr:
		return value{kind: api.TFn, number: int64(c.meant[n.Text])}
	case api.NMake:
		return c.made(n.Text, kids)
	case api.NDot:
		return kids[0].part(n.Text)
	case api.NNeg:
		return negated(kids[0])
	case api.NNot:
		return truth(kids[0].number == 0)
	case api.NToInt:
		return whole(int32(kids[0].number))
	case api.NToLong:
		return long(kids[0].number)
	case api.NOp:
		v, ok := operation(int(n.Num), kids[0], kids[1])
		if !ok {
			c.end(api.RunDivided)
		}
		return v
	case api.NCount:
		return whole(int32(len(c.beyond)))
	case api.NExtra:
		return c.extra(kids[0].number)
	}
	return number(n)
}

// made is a struct of its fields' values.
func (c *call) made(name string, parts []value) value {
	v := value{kind: api.TStruct, parts: parts}
	for _, field := range c.Kids[c.structs[name]].Kids {
		v.names = append(v.names, field.Text)
	}
	return v
}

// extra is one of the words beyond, if there is one of that number.
func (c *call) extra(at int64) value {
	if at < 0 || at >= int64(len(c.beyond)) {
		return whole(0)
	}
	return whole(c.beyond[at])
}
