package three

import (
	"scarfjoint/api"
	"scarfjoint/types"
)

// thing is what a name stands for.
type thing struct {
	fun   bool
	sign  string // its type's text
	place int    // a function's number among those of all units, or where a variable's lower word is; not known of one that stands elsewhere, till it is found
}

// unit is one that has its form, and what its names stand for.
type unit struct {
	api.Made
	given map[string]thing
}

// formed reads a unit, and says whether that has its form.
func formed(m api.Made) (unit, bool) {
	u := unit{Made: m, given: map[string]thing{}}
	for _, b := range m.Bodies {
		if !May(b) || !u.give(b.Name, b.Type, true) {
			return u, false
		}
	}
	for _, g := range m.Globals {
		if !isNumber(g) || !u.give(g.Name, g.Type, false) {
			return u, false
		}
	}
	for _, o := range m.Outsides {
		if !u.give(o.Name, o.Type, o.Fun) {
			return u, false
		}
	}
	return u, true
}

// isNumber says whether what a variable is at first is a number of its type: of a long each is.
func isNumber(g api.Global) bool {
	return g.Type.Kind == api.TLong || g.Value == int64(int32(g.Value))
}

// give gives a name once, to a function or to a variable, and says whether it may be given.
func (u unit) give(name string, t api.Type, fun bool) bool {
	if _, twice := u.given[name]; twice || !types.Name(name) {
		return false
	}
	sign := types.Text(t)
	u.given[name] = thing{fun: fun, sign: sign}
	if fun {
		return isFunction(t)
	}
	return sign == "int" || sign == "long"
}

// stray finds the first body with an order that speaks of what its unit does not give.
func (u unit) stray() (int, bool) {
	for at, b := range u.Bodies {
		for _, o := range b.Code {
			if !u.gives(o) {
				return at, true
			}
		}
	}
	return 0, false
}

// gives says whether a unit gives what an order speaks of.
func (u unit) gives(o api.Three) bool {
	t, ok := u.given[o.Name]
	switch o.Op {
	case api.TCall:
		return ok && t.fun && t.sign == types.Text(o.Type)
	case api.TAddr:
		return ok && t.fun
	case api.TLoad, api.TStore:
		return ok && !t.fun && (o.N == 0 || t.sign == "long")
	}
	return true
}
