package tail_test

import (
	"slices"

	"scarfjoint/api"
)

// drawer draws numbers: the same ones each time.
type drawer uint64

func (d *drawer) below(n int) int {
	*d ^= *d << 13
	*d ^= *d >> 7
	*d ^= *d << 17
	return int(uint64(*d) >> 11 % uint64(n))
}

// oneOf draws one of a list.
func oneOf[T any](d *drawer, l []T) T {
	return l[d.below(len(l))]
}

// results are what drawn functions return, by how many words these are, less one.
func results() [][]api.Type {
	return [][]api.Type{{whole, function(long), ints(1)}, {long, ints(2), structure(long)}, {ints(3)}}
}

// function draws a function's type with a result of so many words.
func (d *drawer) function(result int) api.Type {
	sorts := []api.Type{whole, whole, whole, long, long, ints(2), ints(3), ints(4), even, function(whole)}
	x := function(oneOf(d, results()[result-1]))
	var params []api.Type
	for range d.below(api.MaxParams + 1) {
		params = append(params, oneOf(d, sorts))
	}
	if len(params) > 0 && d.below(6) == 0 {
		params[d.below(len(params))] = oneOf(d, []api.Type{ints(5), structure(even, whole), wide})
	}
	x.Parts = append(params, x.Parts...)
	x.Many = d.below(6) == 0
	return x
}

// result draws of how many words one is: mostly of one or two.
func (d *drawer) result() int {
	return oneOf(d, row(1, 1, 1, 2, 2, 2, 3))
}

// body draws one of up to so many registers beyond its parameters', and some more, and up to so many rows of orders.
func (d *drawer) body(regs, rows int) api.Body {
	b := body(d.function(d.result()), 0)
	params, result := words(b.Type)
	b.Regs = params + 3 + d.below(regs)
	for range d.below(rows + 1) {
		b.Code = append(b.Code, d.row(b, result)...)
	}
	b.Code = append(b.Code, back(d.registers(b, result)...))
	if d.below(3) == 0 {
		b.Code[len(b.Code)-1] = jump(0)
	}
	for at, o := range b.Code {
		if o.Op == api.TJump || o.Op == api.TZero {
			b.Code[at].N = d.below(len(b.Code))
		}
	}
	return b
}

// registers draws so many of a body's.
func (d *drawer) registers(b api.Body, n int) []int {
	var l []int
	for range n {
		l = append(l, d.below(b.Regs))
	}
	return l
}

// apart draws so many registers, no two alike.
func (d *drawer) apart(b api.Body, n int) []int {
	var l []int
	for len(l) < n {
		if r := d.below(b.Regs); !slices.Contains(l, r) {
			l = append(l, r)
		}
	}
	return l
}

// row draws an order, or a call and what stands behind it: mostly the return of what it returns.
func (d *drawer) row(b api.Body, result int) []api.Three {
	if d.below(3) == 0 {
		return []api.Three{d.order(b)}
	}
	if d.below(8) == 0 {
		return []api.Three{d.call(b, d.result())}
	}
	o := d.call(b, result)
	behind := back(slices.Clone(o.D)...)
	switch d.below(10) {
	case 0:
		slices.Reverse(behind.S)
	case 1:
		behind.S[d.below(result)] = d.below(b.Regs)
	case 2:
		return []api.Three{o, d.order(b), behind}
	case 3:
		return []api.Three{o, jump(0), behind}
	}
	return []api.Three{o, behind}
}

// call draws one whose result has so many words: mostly of a function whose words find room where the body's own do.
func (d *drawer) call(b api.Body, result int) api.Three {
	x := d.function(result)
	for area(x) > area(b.Type) && d.below(4) > 0 {
		x = d.function(result)
	}
	given, _ := words(x)
	if x.Many {
		given += d.below(2*api.MaxParams + 1)
	}
	o := call(d.apart(b, result), x, d.registers(b, given)...)
	if d.below(2) == 0 {
		o = callr(o.D, x, d.registers(b, given+1)...)
	}
	return o
}

// order draws one that is no call.
func (d *drawer) order(b api.Body) api.Three {
	r := d.registers(b, 3)
	l := []api.Three{
		constant(r[0]), duplicate(r[0], r[1]), sum(r[0], r[1], r[2]), load(r[0]), store(r[0]), address(r[0]), jump(0), zero(r[0], 0), put(r[0]),
	}
	if b.Type.Many {
		l = append(l, count(r[0]), extra(r[0], r[1]))
	}
	return oneOf(d, l)
}

// change changes one thing of a body.
func (d *drawer) change(b *api.Body) {
	o := &b.Code[d.below(len(b.Code))]
	switch d.below(9) {
	case 0:
		o.Op = d.below(17) - 1
	case 1:
		o.N = d.below(20) - 1
	case 2:
		o.D = append(slices.Clone(o.D), d.below(b.Regs+1)-1)
	case 3:
		o.S = append(slices.Clone(o.S), d.below(b.Regs+1)-1)
	case 4:
		o.S = o.S[:len(o.S)/2]
	case 5:
		o.Name = oneOf(d, []string{"", "f", "g"})
	case 6:
		o.Type = oneOf(d, []api.Type{{}, whole, d.function(d.result()), d.function(d.result())})
	case 7:
		b.Regs += d.below(3) - 1
	case 8:
		b.Type = d.function(d.result())
	}
}
