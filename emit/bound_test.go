package emit_test

import (
	"slices"
	"testing"

	"scarfjoint/api"
	"scarfjoint/three"
)

// bounded holds that a run ends within the steps that Q2 says: means gives an image no more.
func bounded(t *testing.T, l ...api.Body) {
	t.Helper()
	want, trouble := three.Run([]api.Made{made(l...)}, api.MaxFuel)
	if trouble != (api.Trouble{}) || want.End != api.RunExit || 400*want.Steps+400 > api.MaxFuel {
		t.Fatal(text(made(l...)), told(want), trouble)
	}
	w := meansIt(t, []api.Made{made(l...)}, want)
	if w.End != api.EndExit || w.Steps > 400*want.Steps+400 {
		t.Errorf("%s\n%d steps for %d", text(made(l...)), w.Steps, want.Steps)
	}
}

// late has the orders of a body read all its registers, behind what is done.
func late(b api.Body) api.Body {
	_, result := words(b.Type)
	b.Code = append(slices.Clone(b.Code), puts(from(0, b.Regs)...)...)
	b.Code = append(b.Code, back(from(b.Regs-result, result)...))
	return b
}

// Q2: the bound of 400 steps for an order, where few orders are done of bodies in which all registers are in use at first: those do the most for each order.
func TestBound(t *testing.T) {
	for _, regs := range []int{1, 14, 40, 200} {
		// main itself.
		bounded(t, late(body("main", function(whole), regs, zero(0, 2), jump(0), back(0))))
		x := function(whole)
		f := late(body("f", x, regs, zero(0, 2), jump(0), back(0)))
		m := mainOf(call(row(0), "f", x), call(row(1), "f", x), call(row(2), "f", x), back(2))
		bounded(t, m, f)
	}
	for _, param := range kinds() {
		for _, result := range []api.Type{whole, long, ints(3), wide} {
			x := function(result, some(6, param)...)
			params, results := words(x)
			d := from(params, results)
			for _, regs := range []int{params + results, 200} {
				// Nothing is done but to give back what was given, or 0.
				f := body("f", x, regs, back(from(regs-results, results)...))
				g := late(body("g", x, regs, zero(regs-1, 2), jump(0), back(from(0, results)...)))
				m := late(body("main", function(whole), 200, call(d, "f", x, from(0, params)...), call(d, "g", x, from(0, params)...), call(d, "f", x, from(0, params)...), back(0)))
				bounded(t, m, f, g)
			}
		}
	}
	// Functions of any number, with as many words beyond as there may be.
	x := many(function(wide, some(6, wide)...))
	f := late(body("f", x, 200, count(72), extra(73, 72), zero(73, 4), jump(0), back(from(0, 12)...)))
	m := late(body("main", function(whole), 200, call(from(90, 12), "f", x, from(0, 84)...), call(from(90, 12), "f", x, from(90, 84)...), back(0)))
	bounded(t, m, f)
}

// Q2: the bound for orders of each kind in a loop, whose registers lie in the frame.
func TestBoundInLoops(t *testing.T) {
	for _, o := range []api.Three{
		constant(0, 1<<30), duplicate(0, 3), operation(0, api.OpMul, 3, 4), load(0, "g", 1), store("g", 1, 3), put(0), jump(4), zero(3, 4), zero(4, 4),
	} {
		m := api.Made{Globals: []api.Global{{Name: "g", Type: long, Value: 9}}}
		m.Bodies = []api.Body{amid(16, constant(1, 12), constant(2, -1), operation(1, api.OpAdd, 1, 2), o, zero(1, 6), jump(2))}
		w := means(t, []api.Made{m})
		if w.End != api.EndExit {
			t.Error(text(m), told(w.Stop))
		}
	}
}
