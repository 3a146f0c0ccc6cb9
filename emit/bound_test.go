package emit_test

import (
	"slices"
	"strconv"
	"testing"

	"scarfjoint/api"
	"scarfjoint/three"
	"scarfjoint/types"
)

// bounded holds that a run ends within the steps that Q2 says (means gives an image no more), and tells how many these are.
func bounded(t *testing.T, l ...api.Body) int {
	t.Helper()
	want, trouble := three.Run([]api.Made{made(l...)}, api.MaxFuel)
	if trouble != (api.Trouble{}) || endOf(want.End) == 0 || 400*want.Steps+400 > api.MaxFuel {
		t.Fatal(text(made(l...)), told(want), trouble)
	}
	w := meansIt(t, []api.Made{made(l...)}, want)
	if w.End != endOf(want.End) || w.Steps > 400*want.Steps+400 {
		t.Errorf("%s\n%d steps for %d", text(made(l...)), w.Steps, want.Steps)
	}
	return w.Steps
}

// late has the orders of a body read all its registers, behind what is done.
func late(b api.Body) api.Body {
	_, result := words(b.Type)
	b.Code = append(slices.Clone(b.Code), puts(from(0, b.Regs)...)...)
	b.Code = append(b.Code, back(from(b.Regs-result, result)...))
	return b
}

// Q2: the bound of 400 steps for an order, where few orders are done of bodies in which all registers are in use at first: those do the most for each order.
func TestBound(t *testing.T) {
	for _, regs := range []int{1, 14, 40, 200} {
		// main itself.
		bounded(t, late(body("main", function(whole), regs, zero(0, 2), jump(0), back(0))))
		x := function(whole)
		f := late(body("f", x, regs, zero(0, 2), jump(0), back(0)))
		m := mainOf(call(row(0), "f", x), call(row(1), "f", x), call(row(2), "f", x), back(2))
		bounded(t, m, f)
	}
	for _, param := range kinds() {
		for _, result := range []api.Type{whole, long, ints(3), wide} {
			x := function(result, some(6, param)...)
			params, results := words(x)
			d := from(params, results)
			for _, regs := range []int{params + results, 200} {
				// Nothing is done but to give back what was given, or 0.
				f := body("f", x, regs, back(from(regs-results, results)...))
				g := late(body("g", x, regs, zero(regs-1, 2), jump(0), back(from(0, results)...)))
				m := late(body("main", function(whole), 200, call(d, "f", x, from(0, params)...), call(d, "g", x, from(0, params)...), call(d, "f", x, from(0, params)...), back(0)))
				bounded(t, m, f, g)
			}
		}
	}
	// Functions of any number, with as many words beyond as there may be.
	x := many(function(wide, some(6, wide)...))
	f := late(body("f", x, 200, count(72), extra(73, 72), zero(73, 4), jump(0), back(from(0, 12)...)))
	m := late(body("main", function(whole), 200, call(from(90, 12), "f", x, from(0, 84)...), call(from(90, 12), "f", x, from(90, 84)...), back(0)))
	bounded(t, m, f)
}

// Q2: the bound for orders of each kind in a loop, whose registers lie in the frame.
func TestBoundInLoops(t *testing.T) {
	for _, o := range []api.Three{
		constant(0, 1<<30), duplicate(0, 3), operation(0, api.OpMul, 3, 4), load(0, "g", 1), store("g", 1, 3), put(0), jump(4), zero(3, 4), zero(4, 4),
	} {
		m := api.Made{Globals: []api.Global{{Name: "g", Type: long, Value: 9}}}
		m.Bodies = []api.Body{amid(16, constant(1, 12), constant(2, -1), operation(1, api.OpAdd, 1, 2), o, zero(1, 6), jump(2))}
		w := means(t, []api.Made{m})
		if w.End != api.EndExit {
			t.Error(text(m), told(w.Stop))
		}
	}
}

// handing is what a call at the first order of a function of a type is handed.
type handing struct {
	name string
	of   func(params, n int) []int
}

func handings() []handing {
	return []handing{
		{"all in order", func(_, n int) []int { return from(0, n) }},
		{"all the other way round", func(_, n int) []int {
			l := from(0, n)
			slices.Reverse(l)
			return l
		}},
		{"what is 0", func(params, n int) []int { return from(params, n) }},
		{"the last ones", func(_, n int) []int { return from(200-n, n) }},
		{"one alone", func(_, n int) []int { return slices.Repeat(row(1), n) }},
	}
}

// read has a body's orders read all of its registers, two by two, behind what is done; the last one returns.
func read(b api.Body, back []int) api.Body {
	for at := 0; at < b.Regs; at += 2 {
		b.Code = append(b.Code, operation(at, api.OpXor, at, at+1))
	}
	b.Code = append(b.Code, api.Three{Op: api.TReturn, S: back})
	return b
}

// chain is a main that calls the first of n functions of a type, each of which calls the next one; the last one divides by 0. All of their 200 registers are live at first, and no order but the first one of each is done.
func chain(x api.Type, n int, h handing) []api.Body {
	params, results := words(x)
	given := params
	if x.Many {
		given += 2 * api.MaxParams
	}
	named := func(at int) string { return "f" + strconv.Itoa(at) }
	l := []api.Body{read(body("main", function(whole), 200, call(from(9, results), named(1), x, from(0, given)...)), row(0))}
	for at := 1; at <= n; at++ {
		first := call(from(199-results, results), named(at+1), x, h.of(params, given)...)
		l = append(l, read(body(named(at), x, 200, first), from(0, results)))
	}
	return append(l, read(body(named(n+1), x, 200, operation(0, api.OpDiv, 198, 199)), from(0, results)))
}

// Q2: functions whose first order is a call, with all registers in use: what each of them does takes no more than 400 steps, so that no row of them is too long.
func TestBoundOfChains(t *testing.T) {
	t.Parallel()
	for _, param := range []api.Type{whole, ints(4), ints(5), wide} {
		for _, result := range []api.Type{whole, wide} {
			for _, h := range handings() {
				for _, x := range []api.Type{function(result, some(6, param)...), many(function(result, some(6, param)...)), many(function(result, param))} {
					two, three := bounded(t, chain(x, 2, h)...), bounded(t, chain(x, 3, h)...)
					if three-two > 400 {
						t.Errorf("%s: %s: %d steps, %d with one call more", types.Text(x), h.name, two, three)
					}
				}
			}
		}
	}
}

// Q2: the same where all calls return.
func TestBoundOfChainsThatReturn(t *testing.T) {
	t.Parallel()
	for _, result := range []api.Type{whole, long, wide} {
		for _, h := range handings() {
			x := many(function(result, some(6, wide)...))
			_, results := words(x)
			first := func(name string, s ...int) []api.Three {
				return []api.Three{call(from(9, results), name, x, s...), zero(199, 3), jump(4), back(from(0, results)...)}
			}
			f := read(body("f", x, 200, first("g", h.of(72, 84)...)...), from(0, results))
			g := read(body("g", x, 200, back(from(72-results, results)...)), from(0, results))
			m := read(body("main", function(whole), 200, first("f", from(0, 84)...)[:3]...), row(0))
			m.Code[1].N, m.Code[2].N = len(m.Code)-1, 3
			bounded(t, m, f, g)
		}
	}
}

// Q2: a call that is the first order: what it reads, of a copy or 0, is there ahead of it, and what waits for it behind it; and if it is come to again, it is not brought again.
func TestFirstCall(t *testing.T) {
	x, y := function(whole, wide, whole), function(whole, whole, whole, whole)
	down := body("down", y, 4, put(1), put(2), constant(3, -1), operation(0, api.OpAdd, 0, 3), back(0))
	main := mainOf(append(constants(0, 13, 101), constant(12, 3), call(row(0), "f", x, from(0, 13)...), back(0))...)
	end := append(puts(from(0, 14)...), back(30))
	for _, c := range []struct {
		times int
		again []api.Three
	}{
		{1, []api.Three{jump(7), jump(7)}},
		{3, []api.Three{zero(20, 7), jump(0)}},
		{3, []api.Three{operation(22, api.OpSame, 20, 30), zero(22, 0)}},
	} {
		first := []api.Three{call(row(20), "down", y, 12, 3, 31), duplicate(12, 20), constant(21, 1), operation(13, api.OpAdd, 13, 21), operation(5, api.OpAdd, 5, 21)}
		f := body("f", x, 40, slices.Concat(first, c.again, end)...)
		times := int32(c.times)
		out := append(slices.Repeat([]int32{104, 0}, c.times), 101, 102, 103, 104, 105, 106+times, 107, 108, 109, 110, 111, 112, 3-times, times)
		exits(t, []api.Body{main, f, down}, 0, out...)
	}
}
