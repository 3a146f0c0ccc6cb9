package colour_test

import (
	"slices"
	"strconv"

	"scarfjoint/api"
)

// drawer draws numbers: the same ones each time.
type drawer uint64

func (d *drawer) below(n int) int {
	*d ^= *d << 13
	*d ^= *d >> 7
	*d ^= *d << 17
	return int(uint64(*d) >> 11 % uint64(n))
}

// oneOf draws one of a list.
func oneOf[T any](d *drawer, l []T) T {
	return l[d.below(len(l))]
}

// called are the types of the functions that drawn bodies call: that of the number 0 has the name f0.
func called() []api.Type {
	return []api.Type{
		function(whole), function(whole, whole), function(long, whole), function(triple, long, whole),
		many(function(whole)), many(function(triple, whole)), function(wide, whole),
	}
}

// own are the types of drawn bodies.
func own() []api.Type {
	return []api.Type{
		function(whole), function(whole, whole), function(long, whole, long), function(triple),
		many(function(whole)), many(function(long, whole)), function(whole, wide),
	}
}

// body draws one of up to so many registers beyond its parameters', and up to so many orders.
func (d *drawer) body(regs, orders int) api.Body {
	b := body(oneOf(d, own()), 0)
	params, result := words(b.Type)
	b.Regs = max(params+d.below(regs+1), 1)
	for range d.below(orders) {
		b.Code = append(b.Code, d.order(b)...)
	}
	b.Code = append(b.Code, back(d.registers(b, result)...))
	if d.below(4) == 0 {
		b.Code[len(b.Code)-1] = jump(0)
	}
	d.lead(b.Code)
	return b
}

// lead draws where jumps lead to: all orders, or mostly those that are near, or mostly those behind.
func (d *drawer) lead(code []api.Three) {
	far := d.below(3)
	for at, o := range code {
		if o.Op != api.TJump && o.Op != api.TZero {
			continue
		}
		n := d.below(len(code))
		if far == 1 {
			n = min(max(at+d.below(9)-4, 0), len(code)-1)
		} else if far == 2 && d.below(8) > 0 {
			n = at + d.below(len(code)-at)
		}
		code[at].N = n
	}
}

// registers draws so many of a body's.
func (d *drawer) registers(b api.Body, n int) []int {
	var l []int
	for range n {
		l = append(l, d.below(b.Regs))
	}
	return l
}

// apart draws so many registers, no two alike; it gives none, if the body has too few.
func (d *drawer) apart(b api.Body, n int) []int {
	var l []int
	for len(l) < n && n <= b.Regs {
		if r := d.below(b.Regs); !slices.Contains(l, r) {
			l = append(l, r)
		}
	}
	return l
}

// order draws one, or two that belong together.
func (d *drawer) order(b api.Body) []api.Three {
	r := d.registers(b, 3)
	switch op := 1 + d.below(api.TExtra); op {
	case api.TConst:
		return []api.Three{constant(r[0])}
	case api.TCopy:
		return []api.Three{duplicate(r[0], r[1])}
	case api.TWord:
		o := sum(r[0], r[1], r[2])
		o.N = 1 + d.below(api.OpSame)
		return []api.Three{o}
	case api.TLoad:
		return []api.Three{load(r[0])}
	case api.TStore:
		return []api.Three{store(r[0])}
	case api.TAddr, api.TCall, api.TCallr:
		return d.call(b, op, r[0])
	case api.TJump:
		return []api.Three{jump(0)}
	case api.TZero:
		return []api.Three{zero(r[0], 0)}
	case api.TReturn:
		_, result := words(b.Type)
		if d.below(4) == 0 {
			return []api.Three{back(d.registers(b, result)...)}
		}
	case api.TCount:
		if b.Type.Many {
			return []api.Three{count(r[0])}
		}
	case api.TExtra:
		if b.Type.Many {
			return []api.Three{extra(r[0], r[1])}
		}
	}
	return []api.Three{put(r[0])}
}

// call draws one, if there are registers enough; of a word mostly with what gives it that.
func (d *drawer) call(b api.Body, op, register int) []api.Three {
	n := d.below(len(called()))
	x := called()[n]
	name := "f" + strconv.Itoa(n)
	given, result := words(x)
	if x.Many {
		given += d.below(4)
	}
	to, s := d.apart(b, result), d.registers(b, given)
	first := address(register)
	first.Name = name
	if op == api.TAddr || len(to) == 0 {
		return []api.Three{first}
	}
	if op == api.TCall {
		o := call(to, x, s...)
		o.Name = name
		return []api.Three{o}
	}
	o := callr(to, x, append(row(register), s...)...)
	if d.below(4) == 0 {
		return []api.Three{o}
	}
	return []api.Three{first, o}
}
