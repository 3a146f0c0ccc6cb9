package colour_test

import (
	"slices"
	"testing"

	"scarfjoint/api"
	"scarfjoint/colour"
)

// great is a body of as many registers and orders as there may be: those that are given, and one more over and over ahead of the last one.
func great(first []api.Three, more, last api.Three) api.Body {
	code := append(slices.Clone(first), slices.Repeat([]api.Three{more}, api.MaxCode-len(first)-1)...)
	return body(function(whole), api.MaxRegs, append(code, last)...)
}

// liesBy holds what Of answers of a body, whose live registers are given order by order.
func liesBy(t *testing.T, b api.Body, live func(at int) []int) []api.Loc {
	t.Helper()
	l, e := colour.Of(b)
	if e != api.OK {
		t.Fatal(text(b), e)
	}
	ahead := make([][]int, len(b.Code))
	for at := range ahead {
		ahead[at] = live(at)
	}
	if wrong := amiss(b, ahead, l); wrong != "" {
		t.Fatalf("%s\n%.999s\n%s", text(b), told(l), wrong)
	}
	return l
}

// inFrame tells how many registers have a place of the frame.
func inFrame(l []api.Loc) int {
	n := 0
	for _, x := range l {
		if x.Stack {
			n++
		}
	}
	return n
}

const (
	lastRegister = api.MaxRegs - 1
	lastOrder    = api.MaxCode - 1
)

// N1, P1: none of the registers is in use: none is named, each is written and never read, one is written over and over.
func TestNoneInUse(t *testing.T) {
	none := func(int) []int { return nil }
	liesBy(t, great(nil, jump(0), jump(0)), none)
	liesBy(t, great(nil, constant(lastRegister), jump(0)), none)
	b := great(nil, jump(0), jump(0))
	for at := range lastOrder {
		b.Code[at] = constant(lastRegister - at)
	}
	liesBy(t, b, none)
	for at := range lastOrder {
		b.Code[at] = call(from(at, 12), function(wide))
	}
	liesBy(t, b, none)
}

// readers are calls that read all registers but the last one, which they write, many at once.
func readers() []api.Three {
	x := many(function(whole, wide, wide, wide, wide, wide, wide))
	var code []api.Three
	for some := range slices.Chunk(from(0, lastRegister), 72) {
		s := append(slices.Repeat(row(lastRegister), 73-len(some)), some...)
		code = append(code, call(row(lastRegister), x, s...))
	}
	return code
}

// N1, N2, P1: all registers are in use at each order, in a loop of all orders, and across calls.
func TestAllInUse(t *testing.T) {
	every := from(0, api.MaxRegs)
	l := liesBy(t, great(readers(), put(lastRegister), jump(0)), func(int) []int { return every })
	if n := inFrame(l); n < api.MaxRegs-9 {
		t.Error("together:", n)
	}
}

// N2 (a), P1: all registers are in use as the body begins, and there alone.
func TestAllInUseAtFirst(t *testing.T) {
	every, code := from(0, api.MaxRegs), readers()
	b := great(code, constant(5), back(lastRegister))
	liesBy(t, b, func(at int) []int {
		if at >= len(code) {
			return row(lastRegister)
		}
		return every[72*at:]
	})
}

// N2 (b), P1: calls write as many as there may be, over and over, while all others are in use.
func TestMostWritten(t *testing.T) {
	every, code := from(0, api.MaxRegs), readers()
	b := great(nil, call(from(0, 12), function(wide)), jump(0))
	begin := lastOrder - len(code)
	copy(b.Code[begin:], code)
	liesBy(t, b, func(at int) []int {
		if at == begin {
			return every
		}
		return every[12:]
	})
}

// P1: the longest rows: each order reads what the one ahead wrote; each one reads a register of its own; each one writes one that is read as far behind.
func TestLongestRows(t *testing.T) {
	b := great(nil, jump(0), back(lastOrder))
	for at := range lastOrder {
		b.Code[at] = duplicate(at+1, at)
	}
	if l := liesBy(t, b, func(at int) []int { return row(at) }); inFrame(l) > 0 {
		t.Error("apart:", inFrame(l))
	}
	for at := range lastOrder {
		b.Code[at] = put(at)
	}
	every := from(0, api.MaxRegs)
	liesBy(t, b, func(at int) []int { return every[at:api.MaxCode] })
	b.Code[lastOrder] = jump(0)
	const half = lastOrder / 2
	for at := range half {
		b.Code[at], b.Code[half+at] = constant(at), put(at)
	}
	b.Code[lastOrder-1] = put(0)
	liesBy(t, b, func(at int) []int {
		switch {
		case at < half:
			return every[:at]
		case at < 2*half:
			return append(row(0), every[max(at-half, 1):half]...)
		case at < lastOrder:
			return row(0)
		}
		return nil
	})
}

// P1: as many loops within one another as there may be: each gives a register its word as it begins, and reads it as it ends; with a call in the midst.
func TestMostLoops(t *testing.T) {
	b := great(nil, put(0), back(lastRegister))
	const loops = (lastOrder - 1) / 2
	for at := range loops {
		b.Code[at] = constant(at)
		b.Code[lastOrder-1-at] = zero(at, at)
	}
	b.Code[loops] = call(row(loops), function(whole))
	every := from(0, loops)
	l := liesBy(t, b, func(at int) []int {
		return append(slices.Clone(every[:min(at, lastOrder-at, loops)]), lastRegister)
	})
	if n := inFrame(l); n < loops+1-8 {
		t.Error("together:", n)
	}
}
