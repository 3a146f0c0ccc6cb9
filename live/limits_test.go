package live_test

import (
	"slices"
	"testing"

	"scarfjoint/api"
	"scarfjoint/live"
)

// great is a body of as many registers and orders as there may be: those that are given, and one more over and over ahead of the last one.
func great(first []api.Three, more, last api.Three) api.Body {
	code := append(slices.Clone(first), slices.Repeat([]api.Three{more}, api.MaxCode-len(first)-1)...)
	return body(function(whole), api.MaxRegs, append(code, last)...)
}

// livesBy holds what Of answers of a body, whose lists are given one by one.
func livesBy(t *testing.T, b api.Body, want func(at int) []int) {
	t.Helper()
	l, e := live.Of(b)
	if e != api.OK || len(l) != len(b.Code) {
		t.Fatal(e, len(l))
	}
	for at, registers := range l {
		if w := want(at); !slices.Equal(registers, w) {
			t.Fatalf("order %d: %.200v, not %.200v", at, registers, w)
		}
	}
}

const (
	lastRegister = api.MaxRegs - 1
	lastOrder    = api.MaxCode - 1
)

// P1: the longest rows, in which a register is read at the far end.
func TestLongestRow(t *testing.T) {
	livesBy(t, great(nil, constant(3), back(lastRegister)), func(int) []int { return row(lastRegister) })
	livesBy(t, great(nil, constant(lastRegister), back(lastRegister)), func(at int) []int {
		if at < lastOrder {
			return nil
		}
		return row(lastRegister)
	})
	// Each order reads the register of its own number.
	b := great(nil, put(0), back(lastOrder))
	for at := range lastOrder {
		b.Code[at] = put(at)
	}
	livesBy(t, b, func(at int) []int { return from(at, api.MaxCode-at) })
	// Each order reads what the one ahead wrote.
	for at := range lastOrder {
		b.Code[at] = duplicate(at+1, at)
	}
	livesBy(t, b, func(at int) []int { return row(at) })
}

// P1: the longest ways back: jumps from each order to the one ahead, and circles of all orders.
func TestLongestJumps(t *testing.T) {
	b := great(nil, jump(0), jump(lastOrder-1))
	for at := range lastOrder {
		b.Code[at].N = max(at-1, 0)
	}
	livesBy(t, b, func(int) []int { return nil })
	b.Code[0] = back(lastRegister)
	livesBy(t, b, func(int) []int { return row(lastRegister) })
	b.Code[0] = jump(lastOrder)
	livesBy(t, b, func(int) []int { return nil })
	b.Code[3000] = zero(5, 2999)
	livesBy(t, b, func(int) []int { return row(5) })
}

// P1: ways that part at each order, ahead and back.
func TestMostWays(t *testing.T) {
	for _, n := range []int{0, 1, 3000, lastOrder - 1, lastOrder} {
		livesBy(t, great(nil, zero(4, n), back(lastRegister)), func(at int) []int {
			if at < lastOrder {
				return row(4, lastRegister)
			}
			return row(lastRegister)
		})
	}
}

// P1: as many loops within one another as there may be: each gives a register its word as it begins, and reads it as it ends.
func TestMostLoops(t *testing.T) {
	b := great(nil, put(0), back(lastRegister))
	const loops = (lastOrder - 1) / 2
	for at := range loops {
		b.Code[at] = constant(at)
		b.Code[lastOrder-1-at] = zero(at, at)
	}
	livesBy(t, b, func(at int) []int {
		within := min(at, lastOrder-at)
		return append(from(0, within), lastRegister)
	})
}

// P1: all registers are live everywhere, in a loop of all orders.
func TestAllIsLive(t *testing.T) {
	all := from(0, api.MaxRegs)
	x := many(function(whole, wide, wide, wide, wide, wide, wide))
	var code []api.Three
	for some := range slices.Chunk(all[:lastRegister], 72) {
		s := append(slices.Repeat(row(lastRegister), 73-len(some)), some...)
		code = append(code, call(row(lastRegister), x, s...))
	}
	livesBy(t, great(code, put(lastRegister), jump(0)), func(int) []int { return all })
}
