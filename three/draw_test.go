package three_test

import (
	"math"
	"slices"

	"scarfjoint/api"
	"scarfjoint/types"
)

// drawer draws numbers: the same ones each time.
type drawer uint64

func (d *drawer) below(n int) int {
	*d ^= *d << 13
	*d ^= *d >> 7
	*d ^= *d << 17
	return int(uint64(*d) >> 11 % uint64(n))
}

// oneOf draws one of a list.
func oneOf[T any](d *drawer, l []T) T {
	return l[d.below(len(l))]
}

// names are few, so that units have the same ones for things of their own.
var names = []string{"a", "b", "c", "d", "e", "f", "g", "main"}

// signatures are the types of functions that are drawn.
func signatures() []api.Type {
	return []api.Type{
		function(whole), function(whole), function(whole, whole), function(long, whole), function(whole, long, wide),
		many(function(whole)), many(function(wide, whole)), function(triple, triple, whole), function(function(whole), function(whole)),
	}
}

// owned is a thing of a drawn program.
type owned struct {
	unit   int
	name   string
	static bool
	t      api.Type
}

// program draws units of which nothing is wrong.
func (d *drawer) program() []api.Made {
	l := make([]api.Made, 1+d.below(api.MaxUnits))
	var all []owned
	for range 2 + d.below(6*len(l)) {
		x := owned{d.below(len(l)), oneOf(d, names), d.below(3) == 0, oneOf(d, append(signatures(), whole, long, whole, long))}
		if x.name == "main" && !x.static {
			continue
		}
		all = d.join(all, x)
	}
	all = d.join(all, owned{d.below(len(l)), "main", false, function(whole)})
	if !slices.ContainsFunc(all, func(x owned) bool { return x.name == "main" && !x.static }) {
		return d.program()
	}
	for unit := range l {
		l[unit] = d.unit(all, unit)
	}
	return l
}

// join has one thing more, unless its name is given already.
func (d *drawer) join(all []owned, x owned) []owned {
	for _, y := range all {
		if x.name == y.name && (x.unit == y.unit || !x.static && !y.static) {
			return all
		}
	}
	return append(all, x)
}

// unit draws what a unit has: its own things, and some of what others have.
func (d *drawer) unit(all []owned, unit int) api.Made {
	var m api.Made
	var known []owned
	for _, x := range all {
		own := x.unit == unit
		hidden := slices.ContainsFunc(all, func(y owned) bool { return y.unit == unit && y.name == x.name })
		if !own && (x.static || hidden || d.below(5) == 0) {
			continue
		}
		known = append(known, x)
		if !own {
			m.Outsides = append(m.Outsides, api.Outside{Name: x.name, Type: x.t, Fun: x.t.Kind == api.TFn})
		} else if x.t.Kind == api.TFn {
			m.Bodies = append(m.Bodies, api.Body{Name: x.name, Static: x.static, Type: x.t})
		} else {
			g := api.Global{Name: x.name, Static: x.static, Type: x.t, Value: int64(d.number())}
			if x.t.Kind == api.TLong {
				g.Value += int64(d.number()) << 32
			}
			m.Globals = append(m.Globals, g)
		}
	}
	for at := range m.Bodies {
		d.fill(&m.Bodies[at], known, d.behind(known, m.Bodies[at].Name))
	}
	return m
}

// behind are the variables, and the functions that were drawn ahead of one: if calls go to these alone, all of them return.
func (d *drawer) behind(known []owned, name string) []owned {
	var l []owned
	ahead := true
	for _, x := range known {
		ahead = ahead && x.name != name
		if ahead || x.t.Kind != api.TFn {
			l = append(l, x)
		}
	}
	return l
}

// number draws a word, more often a small one.
func (d *drawer) number() int {
	switch d.below(5) {
	case 0:
		return oneOf(d, []int{math.MinInt32, math.MaxInt32, -1, 1 << 16})
	case 1:
		return int(int32(uint64(d.below(1<<31)) * 2654435761))
	}
	return d.below(6)
}

// fill draws a body's registers and orders, which mostly speak of what is behind.
func (d *drawer) fill(b *api.Body, known, behind []owned) {
	params, result := signature(b.Type)
	b.Regs = max(wordsOf(params)+d.below(6), 1)
	n := 2 + d.below(14)
	for range n {
		if len(behind) > 0 && d.below(20) > 0 {
			b.Code = append(b.Code, d.orders(b, behind)...)
		} else {
			b.Code = append(b.Code, d.orders(b, known)...)
		}
	}
	b.Code = append(b.Code, back(d.registers(b, wordsOf(result))...))
	for at := range b.Code {
		o := &b.Code[at]
		if o.Op != api.TJump && o.Op != api.TZero {
			continue
		}
		// Most lead on, so that most calls return.
		o.N = at + 1 + d.below(len(b.Code)-at-1)
		if d.below(12) == 0 {
			o.N = d.below(len(b.Code))
		}
	}
}

// registers draws so many of a body's.
func (d *drawer) registers(b *api.Body, n int) []int {
	var l []int
	for range n {
		l = append(l, d.below(b.Regs))
	}
	return l
}

// apart draws so many registers, no two alike; the body gets more of them, if it has too few.
func (d *drawer) apart(b *api.Body, n int) []int {
	b.Regs = max(b.Regs, n)
	var l []int
	for len(l) < n {
		if r := d.below(b.Regs); !slices.Contains(l, r) {
			l = append(l, r)
		}
	}
	return l
}

// orders draws one, or a few that belong together.
func (d *drawer) orders(b *api.Body, known []owned) []api.Three {
	r := d.registers(b, 3)
	switch op := 1 + d.below(api.TExtra+3); op {
	case api.TCopy:
		return []api.Three{duplicate(r[0], r[1])}
	case api.TWord:
		op := 1 + d.below(api.OpSame)
		if (op == api.OpDiv || op == api.OpRem) && d.below(2) > 0 {
			return []api.Three{constant(r[2], 1+d.below(9)), operation(r[0], op, r[1], r[2])}
		}
		return []api.Three{operation(r[0], op, r[1], r[2])}
	case api.TLoad, api.TStore, api.TAddr, api.TCall, api.TCallr:
		return d.speaking(b, op, known, r)
	case api.TJump:
		if d.below(3) > 0 {
			return []api.Three{zero(r[0], 0)}
		}
		return []api.Three{jump(0)}
	case api.TZero:
		return []api.Three{zero(r[0], 0)}
	case api.TPut, api.TPut + 4, api.TPut + 5:
		return []api.Three{put(r[0])}
	case api.TCount, api.TExtra:
		if b.Type.Many && op == api.TCount {
			return []api.Three{count(r[0])}
		}
		if b.Type.Many {
			return []api.Three{constant(r[1], d.below(5)-1), extra(r[0], r[1])}
		}
	}
	return []api.Three{constant(r[0], d.number())}
}

// speaking draws an order that speaks of a name, or a call of a word with what gives it that.
func (d *drawer) speaking(b *api.Body, op int, known []owned, r []int) []api.Three {
	x := oneOf(d, known)
	switch {
	case x.t.Kind != api.TFn && d.below(2) == 0:
		return []api.Three{load(r[0], x.name, d.below(types.Words(x.t)))}
	case x.t.Kind != api.TFn:
		return []api.Three{store(x.name, d.below(types.Words(x.t)), r[0])}
	case op == api.TAddr:
		return []api.Three{address(r[0], x.name)}
	}
	params, result := signature(x.t)
	n := wordsOf(params)
	if x.t.Many {
		n += d.below(4)
	}
	to, given := d.apart(b, wordsOf(result)), d.registers(b, n)
	if op == api.TCall || op == api.TLoad {
		return []api.Three{call(to, x.name, x.t, given...)}
	}
	called := callr(to, x.t, append(row(r[0]), given...)...)
	switch d.below(16) {
	case 0:
		return []api.Three{called}
	case 1:
		return []api.Three{constant(r[0], d.below(12)), called}
	}
	return []api.Three{address(r[0], x.name), called}
}
