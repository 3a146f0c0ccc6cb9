package model

import (
	"scarfjoint/api"
	"scarfjoint/check"
)

// joined puts units together, or tells their first trouble: each sort is looked for in all units ahead of the next sort.
func joined(texts []string) (*program, api.Trouble) {
	if len(texts) < 1 || len(texts) > api.MaxUnits {
		return nil, api.Trouble{Code: api.ErrSize}
	}
	p := &program{open: map[string]int{}}
	trouble := p.read(texts)
	if trouble.Code == api.OK {
		trouble = p.gather()
	}
	if trouble.Code == api.OK {
		trouble = p.resolve()
	}
	if trouble.Code == api.OK {
		trouble = p.begins()
	}
	return p, trouble
}

// read reads units that may be, each by itself.
func (p *program) read(texts []string) api.Trouble {
	for at, text := range texts {
		n, fault := check.Check(text)
		if fault.Code != api.OK {
			return api.Trouble{Unit: at, Code: fault.Code, At: fault.At}
		}
		signs, _ := check.Declared(text)
		p.units = append(p.units, unit{Node: n, signs: signs, numbers: numbers(n), structs: map[string]int{}, meant: map[string]int{}})
	}
	return api.Trouble{}
}

// numbers has the numbers of a unit's declarations among all of its nodes.
func numbers(n api.Node) []int {
	count := 0
	var pass func(n api.Node)
	pass = func(n api.Node) {
		count++
		for _, kid := range n.Kids {
			pass(kid)
		}
	}
	count++ // the unit itself
	var l []int
	for _, kid := range n.Kids {
		l = append(l, count)
		pass(kid)
	}
	return l
}

// gather gives what the units have its places: no two things that are not static have one name.
func (p *program) gather() api.Trouble {
	for at, u := range p.units {
		for i, n := range u.Kids {
			switch n.Kind {
			case api.NStruct:
				u.structs[n.Text] = i
			case api.NFun, api.NGlobal:
				if _, twice := p.open[n.Text]; twice && !isStatic(n) {
					return api.Trouble{Unit: at, Code: api.ErrTwice, At: u.numbers[i]}
				}
				u.meant[n.Text] = len(p.things)
				if !isStatic(n) {
					p.open[n.Text] = len(p.things)
				}
				p.things = append(p.things, thing{Node: n, unit: at, sign: u.signs[i], now: first(n)})
			}
		}
	}
	return api.Trouble{}
}

// isStatic says whether a function or a global variable is its unit's alone; a function's Num says, too, whether it is of any number.
func isStatic(n api.Node) bool {
	return n.Num&1 == 1
}

// first is what a global variable is at first.
func first(n api.Node) value {
	if n.Kind != api.NGlobal {
		return value{}
	}
	return number(n.Kids[1])
}

// resolve finds what the units say stands elsewhere.
func (p *program) resolve() api.Trouble {
	for at, u := range p.units {
		for i, n := range u.Kids {
			if n.Kind != api.NExtern && n.Kind != api.NOutside {
				continue
			}
			place, ok := p.open[n.Text]
			if !ok {
				return api.Trouble{Unit: at, Code: api.ErrName, At: u.numbers[i]}
			}
			// A variable's type is never a function's, so that the types tell functions from variables, too.
			if p.things[place].sign != u.signs[i] {
				return api.Trouble{Unit: at, Code: api.ErrKind, At: u.numbers[i]}
			}
			u.meant[n.Text] = place
		}
	}
	return api.Trouble{}
}

// begins asks for the function that is called first.
func (p *program) begins() api.Trouble {
	place, ok := p.open["main"]
	if !ok || p.things[place].Kind != api.NFun {
		return api.Trouble{Code: api.ErrName}
	}
	if p.things[place].sign != "fn()int" {
		return api.Trouble{Code: api.ErrKind}
	}
	return api.Trouble{}
}
