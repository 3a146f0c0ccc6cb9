package three

import (
	"scarfjoint/api"
	"scarfjoint/types"
	"scarfjoint/word"
)

// program is units that are put together.
type program struct {
	units     []unit
	functions []function
	variables []int32          // two words of each: an int's upper one is never asked for
	open      map[string]thing // what is not static
}

// function is a body, and what the names stand for: its own one, and those of its orders.
type function struct {
	api.Body
	thing
	given  map[string]thing // by its unit
	params int              // how many words its parameters have
	about  []thing          // of each order what that speaks of
}

// joined puts units together, or tells their first trouble: each sort is looked for in all units ahead of the next sort.
func joined(l []api.Made) (*program, api.Trouble) {
	if len(l) < 1 || len(l) > api.MaxUnits {
		return nil, api.Trouble{Code: api.ErrSize}
	}
	p := &program{open: map[string]thing{}}
	trouble := p.read(l)
	if trouble.Code == api.OK {
		trouble = p.speak()
	}
	if trouble.Code == api.OK {
		trouble = p.gather()
	}
	if trouble.Code == api.OK {
		trouble = p.resolve()
	}
	if trouble.Code == api.OK {
		trouble = p.begins()
	}
	return p, trouble
}

// read reads units that have their form, each by itself.
func (p *program) read(l []api.Made) api.Trouble {
	for at, m := range l {
		u, ok := formed(m)
		if !ok {
			return api.Trouble{Unit: at, Code: api.ErrForm}
		}
		p.units = append(p.units, u)
	}
	return api.Trouble{}
}

// speak asks whether all orders speak of what their units give.
func (p *program) speak() api.Trouble {
	for at, u := range p.units {
		if body, strays := u.stray(); strays {
			return api.Trouble{Unit: at, Code: api.ErrName, At: body}
		}
	}
	return api.Trouble{}
}

// gather gives what the units have its places: no two things that are not static have one name.
func (p *program) gather() api.Trouble {
	for at, u := range p.units {
		for i, b := range u.Bodies {
			if !p.put(u, b.Name, b.Static, len(p.functions)) {
				return api.Trouble{Unit: at, Code: api.ErrTwice, At: i}
			}
			params, _ := words(b.Type)
			p.functions = append(p.functions, function{Body: b, thing: u.given[b.Name], given: u.given, params: params})
		}
		for i, g := range u.Globals {
			if !p.put(u, g.Name, g.Static, len(p.variables)) {
				return api.Trouble{Unit: at, Code: api.ErrTwice, At: len(u.Bodies) + i}
			}
			low, high := word.Split(g.Value)
			p.variables = append(p.variables, low, high)
		}
	}
	return api.Trouble{}
}

// put gives what a unit's name stands for its place, and says whether it may stand there.
func (p *program) put(u unit, name string, static bool, place int) bool {
	t := u.given[name]
	t.place = place
	u.given[name] = t
	if static {
		return true
	}
	_, twice := p.open[name]
	p.open[name] = t
	return !twice
}

// resolve finds what the units say stands elsewhere.
func (p *program) resolve() api.Trouble {
	for at, u := range p.units {
		for i, o := range u.Outsides {
			t, ok := p.open[o.Name]
			if !ok {
				return api.Trouble{Unit: at, Code: api.ErrName, At: i}
			}
			// A variable's type is never a function's, so that the types tell functions from variables, too.
			if t.sign != u.given[o.Name].sign {
				return api.Trouble{Unit: at, Code: api.ErrKind, At: i}
			}
			u.given[o.Name] = t
		}
	}
	return api.Trouble{}
}

// begins asks for the function that is called first.
func (p *program) begins() api.Trouble {
	main, ok := p.open["main"]
	if !ok || !main.fun {
		return api.Trouble{Code: api.ErrName}
	}
	if main.sign != "fn()int" {
		return api.Trouble{Code: api.ErrKind}
	}
	return api.Trouble{}
}

// learn finds what all orders speak of, once for a whole run: a function that is a word is held against a type by their texts.
func (p *program) learn() {
	for at := range p.functions {
		f := &p.functions[at]
		for _, o := range f.Code {
			about := f.given[o.Name]
			if o.Op == api.TCallr {
				about.sign = types.Text(o.Type)
			}
			f.about = append(f.about, about)
		}
	}
}
