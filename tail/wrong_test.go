package tail_test

import (
	"math"
	"slices"
	"strings"
	"testing"

	"scarfjoint/api"
	"scarfjoint/three"
)

// good is a body that may be, with orders of all kinds, of which two are calls at the tail.
func good() api.Body {
	x := function(long, whole, long)
	return body(many(x), 12,
		constant(3), duplicate(4, 3), sum(5, 3, 4), load(6), store(6), address(7),
		call(row(0, 1), x, 3, 4, 5), back(0, 1), callr(row(1, 2), x, 7, 3, 4, 5), back(1, 2),
		call(row(8), many(function(whole)), 3), callr(row(8), many(function(whole)), 7, 3),
		zero(3, 1), put(8), count(9), extra(10, 9), jump(17), back(0, 1),
	)
}

// at gives the number of the first order of a kind in a good body.
func at(op int) int {
	return slices.IndexFunc(good().Code, func(o api.Three) bool { return o.Op == op })
}

// spoilt is a good body of which one thing was changed.
func spoilt(change func(b *api.Body)) api.Body {
	b := good()
	change(&b)
	return b
}

// O2: a good body may be, and has two calls at the tail: so where it is spoilt, there would be something else to tell.
func TestGood(t *testing.T) {
	tells(t, good(), 6, 8)
}

// checkRefused holds that a body may not be, as chapter 11 has it, and that Of says so.
func checkRefused(t *testing.T, what string, b api.Body) {
	t.Helper()
	if three.May(b) {
		t.Errorf("%s: it may be\n%s", what, text(b))
	}
	refuses(t, b)
}

// O2, K1: all of a body but its orders.
func TestWrongBodies(t *testing.T) {
	for _, name := range []string{"", "9", "_", "a b", "return", "count", "int", "\x00", "é", strings.Repeat("x", 17)} {
		checkRefused(t, "name", spoilt(func(b *api.Body) { b.Name = name }))
	}
	for _, x := range []api.Type{
		{}, whole, long, wide, {Kind: 5}, {Kind: -1}, {Kind: api.TFn}, {Kind: api.TFn, Name: "f", Parts: []api.Type{long}},
		{Kind: api.TFn, Names: []string{"a"}, Parts: []api.Type{long}}, function(api.Type{}), function(long, api.Type{}),
		function(function(function(function(long)))), function(long, some(7, whole)...), function(long, structure(wide, whole)),
	} {
		checkRefused(t, "type", spoilt(func(b *api.Body) { b.Type = x }))
		checkRefused(t, "type", body(x, 12, jump(0)))
	}
	for _, n := range []int{math.MinInt, -1, 0, 1, 2, api.MaxRegs + 1, 1 << 32, math.MaxInt} {
		checkRefused(t, "registers", spoilt(func(b *api.Body) { b.Regs = n }))
		checkRefused(t, "registers", body(good().Type, n, jump(0)))
	}
	checkRefused(t, "nothing", api.Body{})
	checkRefused(t, "no orders", spoilt(func(b *api.Body) { b.Code = nil }))
	checkRefused(t, "no orders", spoilt(func(b *api.Body) { b.Code = []api.Three{} }))
	for _, n := range []int{api.MaxCode + 1, 1 << 16} {
		checkRefused(t, "too many orders", plain(slices.Repeat([]api.Three{back(0)}, n)...))
		x := []api.Three{call(row(0), function(whole)), back(0)}
		checkRefused(t, "too many orders", plain(slices.Repeat(x, (n+1)/2)...))
	}
}

// O2, K1: the last order is a TJump or TReturn; so none is a call, behind which there would be no order.
func TestWrongLastOrders(t *testing.T) {
	for n, o := range good().Code {
		b := good()
		b.Code = b.Code[:n+1]
		if o.Op == api.TJump || o.Op == api.TReturn {
			continue
		}
		checkRefused(t, "last order", b)
		checkRefused(t, "last order", spoilt(func(b *api.Body) { b.Code = []api.Three{o} }))
		checkRefused(t, "last order", spoilt(func(b *api.Body) { b.Code = append(b.Code, o) }))
	}
	for _, o := range calls(row(0), function(whole), 0) {
		checkRefused(t, "last order", plain(o))
		checkRefused(t, "last order", plain(o, back(0), o))
	}
}

// O2, K1: orders of each kind with more or fewer registers, with such as are none, and with fields that their row does not name.
func TestWrongOrders(t *testing.T) {
	for n, o := range good().Code {
		wrong := func(what string, change func(o *api.Three)) {
			t.Helper()
			checkRefused(t, what, spoilt(func(b *api.Body) {
				b.Code[n].D, b.Code[n].S = slices.Clone(o.D), slices.Clone(o.S)
				change(&b.Code[n])
			}))
		}
		for _, op := range []int{math.MinInt, -1, 0, 15, 255, 256 + o.Op, 1<<32 + o.Op, math.MaxInt} {
			wrong("op", func(o *api.Three) { o.Op = op })
		}
		wrong("one more in D", func(o *api.Three) { o.D = append(o.D, 11) })
		wrong("too many in S", func(o *api.Three) { o.S = append(o.S, slices.Repeat(row(1), 2*api.MaxParams+1)...) })
		if !o.Type.Many {
			wrong("one more in S", func(o *api.Three) { o.S = append(o.S, 11) })
		}
		if len(o.D) > 0 {
			wrong("one fewer in D", func(o *api.Three) { o.D = o.D[1:] })
		}
		if len(o.S) > 0 && (!o.Type.Many || o.Op == api.TCallr) {
			wrong("none in S", func(o *api.Three) { o.S = nil })
		}
		wrongFields(o, wrong)
	}
}

// wrongFields spoils the registers of an order, and what its row says of its other fields.
func wrongFields(o api.Three, wrong func(what string, change func(o *api.Three))) {
	for _, register := range []int{math.MinInt, -1, 12, api.MaxRegs, 1 << 32, math.MaxInt} {
		for i := range o.D {
			wrong("register of D", func(o *api.Three) { o.D[i] = register })
		}
		for i := range o.S {
			wrong("register of S", func(o *api.Three) { o.S[i] = register })
		}
	}
	for _, number := range []int{math.MinInt, math.MinInt32 - 1, math.MaxInt32 + 1, math.MaxInt} {
		wrong("number", func(o *api.Three) { o.N = number })
	}
	if o.Name == "" {
		wrong("name", func(o *api.Three) { o.Name = "f" })
	}
	if o.Type.Kind == 0 {
		wrong("type", func(o *api.Three) { o.Type = function(whole) })
		wrong("type", func(o *api.Three) { o.Type.Many = true })
	}
}

// O2, K1: the numbers of orders, at the ends of what they may be.
func TestWrongNumbers(t *testing.T) {
	for _, c := range []struct{ op, least, most int }{
		{api.TConst, math.MinInt32, math.MaxInt32}, {api.TCopy, 0, 0}, {api.TWord, api.OpAdd, api.OpSame}, {api.TLoad, 0, 1}, {api.TStore, 0, 1},
		{api.TAddr, 0, 0}, {api.TCall, 0, 0}, {api.TCallr, 0, 0}, {api.TJump, 0, 17}, {api.TZero, 0, 17}, {api.TPut, 0, 0}, {api.TReturn, 0, 0},
		{api.TCount, 0, 0}, {api.TExtra, 0, 0},
	} {
		for _, n := range []int{c.least - 1, c.most + 1} {
			checkRefused(t, "number", spoilt(func(b *api.Body) { b.Code[at(c.op)].N = n }))
		}
		for _, n := range []int{c.least, c.most} {
			tells(t, spoilt(func(b *api.Body) { b.Code[at(c.op)].N = n }), 6, 8)
		}
	}
}

// O2, K1: what is asked of calls, returns, and bodies of any number alone.
func TestWrongCalls(t *testing.T) {
	endless := function(whole, whole)
	endless.Parts[0] = endless
	for _, op := range []int{api.TCall, api.TCallr} {
		for _, x := range []api.Type{{}, whole, long, wide, {Kind: api.TFn}, function(whole, whole, long), function(ints(3), whole, long), function(long, long, long), function(long, whole), endless} {
			checkRefused(t, "type", spoilt(func(b *api.Body) { b.Code[at(op)].Type = x }))
		}
		for _, d := range [][]int{{0, 0}, {1, 1}, {11, 11}} {
			checkRefused(t, "alike", spoilt(func(b *api.Body) { b.Code[at(op)].D, b.Code[at(op)+1].S = d, d }))
		}
	}
	for n := range 14 {
		if n != 2 {
			checkRefused(t, "return", spoilt(func(b *api.Body) { b.Code[17].S = slices.Repeat(row(1), n) }))
		}
	}
	checkRefused(t, "any number", spoilt(func(b *api.Body) { b.Type.Many = false }))
	checkRefused(t, "any number", plain(count(0), back(0)))
	checkRefused(t, "any number", plain(extra(0, 0), back(0)))
	checkRefused(t, "any number", plain(count(0), call(row(0), function(whole)), back(0)))
}
