package emit_test

import (
	"math"
	"slices"

	"scarfjoint/api"
	"scarfjoint/types"
)

// drawer draws numbers: the same ones each time.
type drawer uint64

func (d *drawer) below(n int) int {
	*d ^= *d << 13
	*d ^= *d >> 7
	*d ^= *d << 17
	return int(uint64(*d) >> 11 % uint64(n))
}

// oneOf draws one of a list.
func oneOf[T any](d *drawer, l []T) T {
	return l[d.below(len(l))]
}

// names are few, so that units have the same ones for things of their own.
var names = []string{"a", "b", "c", "d", "e", "f", "g", "main"}

// signature draws a function's type.
func (d *drawer) signature() api.Type {
	t := api.Type{Kind: api.TFn, Many: d.below(4) == 0}
	for range d.below(1+d.below(api.MaxParams)) + 1 {
		t.Parts = append(t.Parts, oneOf(d, append(kinds(), whole, long, whole)))
	}
	return t
}

// owned is a thing of a drawn program.
type owned struct {
	unit   int
	name   string
	static bool
	t      api.Type
}

// program draws units of which nothing is wrong, whose bodies have up to so many registers beyond their parameters'.
func (d *drawer) program(regs int) []api.Made {
	l := make([]api.Made, 1+d.below(api.MaxUnits))
	var all []owned
	for range 2 + d.below(5*len(l)) {
		x := owned{d.below(len(l)), oneOf(d, names), d.below(3) == 0, oneOf(d, []api.Type{d.signature(), d.signature(), whole, long})}
		if x.name != "main" || x.static {
			all = d.join(all, x)
		}
	}
	all = d.join(all, owned{d.below(len(l)), "main", false, function(whole)})
	if !slices.ContainsFunc(all, func(x owned) bool { return x.name == "main" && !x.static }) {
		return d.program(regs)
	}
	for unit := range l {
		l[unit] = d.unit(all, unit, regs)
	}
	return l
}

// join has one thing more, unless its name is given already.
func (d *drawer) join(all []owned, x owned) []owned {
	for _, y := range all {
		if x.name == y.name && (x.unit == y.unit || !x.static && !y.static) {
			return all
		}
	}
	return append(all, x)
}

// unit draws what a unit has: its own things, and some of what others have.
func (d *drawer) unit(all []owned, unit, regs int) api.Made {
	var m api.Made
	var known []owned
	for _, x := range all {
		own := x.unit == unit
		hidden := slices.ContainsFunc(all, func(y owned) bool { return y.unit == unit && y.name == x.name })
		if !own && (x.static || hidden || d.below(5) == 0) {
			continue
		}
		known = append(known, x)
		if !own {
			m.Outsides = append(m.Outsides, api.Outside{Name: x.name, Type: x.t, Fun: x.t.Kind == api.TFn})
		} else if x.t.Kind == api.TFn {
			m.Bodies = append(m.Bodies, api.Body{Name: x.name, Static: x.static, Type: x.t})
		} else {
			g := api.Global{Name: x.name, Static: x.static, Type: x.t, Value: int64(d.number())}
			if x.t.Kind == api.TLong {
				g.Value += int64(d.number()) << 32
			}
			m.Globals = append(m.Globals, g)
		}
	}
	for at := range m.Bodies {
		d.fill(&m.Bodies[at], known, d.behind(known, m.Bodies[at].Name), regs)
	}
	return m
}

// behind are the variables, and the functions that were drawn ahead of one: if calls go to these alone, all of them return.
func (d *drawer) behind(known []owned, name string) []owned {
	var l []owned
	ahead := true
	for _, x := range known {
		ahead = ahead && x.name != name
		if ahead || x.t.Kind != api.TFn {
			l = append(l, x)
		}
	}
	return l
}

// number draws a word, more often a small one.
func (d *drawer) number() int {
	switch d.below(5) {
	case 0:
		return oneOf(d, []int{math.MinInt32, math.MaxInt32, -1, 1 << 16, 1<<15 - 1, 1 << 15, -1 << 15, -1<<15 - 1})
	case 1:
		return int(int32(uint64(d.below(1<<31)) * 2654435761))
	}
	return d.below(6)
}

// fill draws a body's registers and orders, which mostly speak of what is behind. Orders that belong together are led to at the first one alone: a word that is called is a function's then.
func (d *drawer) fill(b *api.Body, known, behind []owned, regs int) {
	params, result := words(b.Type)
	b.Regs = max(params+d.below(regs+1), 1)
	var starts []int
	for range 2 + d.below(14+regs/4) {
		starts = append(starts, len(b.Code))
		if len(behind) > 0 && d.below(20) > 0 {
			b.Code = append(b.Code, d.orders(b, behind)...)
		} else {
			b.Code = append(b.Code, d.orders(b, known)...)
		}
	}
	starts = append(starts, len(b.Code))
	b.Code = append(b.Code, back(d.registers(b, result)...))
	for at := range b.Code {
		o := &b.Code[at]
		if o.Op != api.TJump && o.Op != api.TZero {
			continue
		}
		// Most lead on, so that most calls return.
		next, _ := slices.BinarySearch(starts, at+1)
		o.N = starts[next+d.below(len(starts)-next)]
		if d.below(12) == 0 {
			o.N = oneOf(d, starts)
		}
	}
}

// registers draws so many of a body's.
func (d *drawer) registers(b *api.Body, n int) []int {
	var l []int
	for range n {
		l = append(l, d.below(b.Regs))
	}
	return l
}

// apart draws so many registers, no two alike; the body gets more of them, if it has too few.
func (d *drawer) apart(b *api.Body, n int) []int {
	b.Regs = max(b.Regs, n)
	var l []int
	for len(l) < n {
		if r := d.below(b.Regs); !slices.Contains(l, r) {
			l = append(l, r)
		}
	}
	return l
}

// orders draws one, or a few that belong together.
func (d *drawer) orders(b *api.Body, known []owned) []api.Three {
	r := d.registers(b, 3)
	switch op := 1 + d.below(api.TExtra+3); op {
	case api.TCopy:
		return []api.Three{duplicate(r[0], r[1])}
	case api.TWord:
		op := 1 + d.below(api.OpSame)
		if (op == api.OpDiv || op == api.OpRem) && d.below(4) > 0 {
			return []api.Three{constant(r[2], 1+d.below(9)), operation(r[0], op, r[1], r[2])}
		}
		return []api.Three{operation(r[0], op, r[1], r[2])}
	case api.TLoad, api.TStore, api.TAddr, api.TCall, api.TCallr:
		if len(known) > 0 {
			return d.speaking(b, oneOf(d, known), r)
		}
	case api.TJump:
		if d.below(3) == 0 {
			return []api.Three{jump(0)}
		}
		return []api.Three{zero(r[0], 0)}
	case api.TZero:
		return []api.Three{zero(r[0], 0)}
	case api.TReturn:
		if d.below(6) == 0 {
			_, result := words(b.Type)
			return []api.Three{back(d.registers(b, result)...)}
		}
	case api.TPut, api.TPut + 4, api.TPut + 5:
		return []api.Three{put(r[0])}
	case api.TCount, api.TExtra:
		if b.Type.Many && op == api.TCount {
			return []api.Three{count(r[0])}
		}
		if b.Type.Many {
			return []api.Three{constant(r[1], d.below(5)-1), extra(r[0], r[1])}
		}
	}
	return []api.Three{constant(r[0], d.number())}
}

// speaking draws orders that speak of a name: a call of a word with what gives it that, and what takes it away again, for the words of functions are others in an image; a call with a return behind it, as often as not of what it returns.
func (d *drawer) speaking(b *api.Body, x owned, r []int) []api.Three {
	switch {
	case x.t.Kind != api.TFn && d.below(2) == 0:
		return []api.Three{load(r[0], x.name, d.below(types.Words(x.t)))}
	case x.t.Kind != api.TFn:
		return []api.Three{store(x.name, d.below(types.Words(x.t)), r[0])}
	}
	params, result := words(x.t)
	if x.t.Many {
		params += d.below(2*api.MaxParams + 1)
	}
	to, given := d.apart(b, result), d.registers(b, params)
	l := []api.Three{call(to, x.name, x.t, given...)}
	if d.below(3) == 0 {
		// The word is handed to no one.
		for at := range given {
			for given[at] == r[0] && b.Regs > 1 {
				given[at] = d.below(b.Regs)
			}
		}
		if slices.Contains(given, r[0]) {
			return l
		}
		l = []api.Three{address(r[0], x.name), callr(to, x.t, append(row(r[0]), given...)...)}
		if !slices.Contains(to, r[0]) {
			l = append(l, constant(r[0], d.number()))
		}
	}
	if _, own := words(b.Type); own == result && d.below(4) == 0 {
		l = append(l, back(to...))
	}
	return l
}
