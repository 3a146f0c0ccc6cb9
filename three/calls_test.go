package three_test

import (
	"math"
	"slices"
	"strings"
	"testing"

	"scarfjoint/api"
)

// told is a body that tells all its parameters' words, and returns some registers.
func told(name string, t api.Type, words int, result ...int) api.Body {
	b := body(name, t, words+1)
	for at := range words {
		b.Code = append(b.Code, put(at))
	}
	b.Code = append(b.Code, back(result...))
	return b
}

// numbers gives the registers from 1 on the words 101, 102, ..
func numbers(n int) []api.Three {
	var l []api.Three
	for at := range n {
		l = append(l, constant(at+1, 101+at))
	}
	return l
}

// K1: parameters are in the registers from 0 on, words of structs with those that are left out, all others are 0; what is returned comes to D, in order.
func TestParametersAndResults(t *testing.T) {
	f := told("f", function(wide, whole, long, triple), 6, 5, 0, 6, 3)
	code := append(numbers(6), call(row(8, 1, 0, 7), "f", f.Type, 6, 5, 4, 3, 2, 1), put(8), put(1), put(0), put(7), put(2), back(7))
	exits(t, code, []api.Body{f}, 20, 103, 106, 105, 104, 103, 102, 101, 101, 106, 0, 103, 102)
	// A struct for a parameter, of four words of which the second one is left out.
	f = told("f", function(long, wide), 4, 1, 3)
	exits(t, append(numbers(4), call(row(0, 8), "f", f.Type, 1, 2, 3, 4), put(0), put(8), back(8)), []api.Body{f}, 13, 104, 101, 102, 103, 104, 102, 104)
	// One register for several words, and D among S.
	f = told("f", function(long, whole, long), 3, 2, 1)
	exits(t, append(numbers(2), call(row(1, 2), "f", f.Type, 1, 2, 2), put(1), put(2), back(1)), []api.Body{f}, 10, 102, 101, 102, 102, 102, 102)
	swap := told("f", function(long, long), 2, 1, 0)
	exits(t, append(numbers(2), call(row(1, 2), "f", swap.Type, 1, 2), put(1), put(2), call(row(2, 1), "f", swap.Type, 1, 2), put(1), put(2), back(1)), []api.Body{swap}, 15, 102, 101, 102, 102, 101, 102, 101, 102, 101)
	// A result of which one register is all.
	f = told("f", function(triple, whole), 1, 0, 0, 0)
	exits(t, append(numbers(2), call(row(3, 4, 5), "f", f.Type, 2), put(3), put(4), put(5), back(0)), []api.Body{f}, 9, 0, 102, 102, 102, 102)
}

// K1: the most words that a call can have.
func TestMostWords(t *testing.T) {
	great := structure(long, long, long, long, long, long)
	f := told("f", many(function(great, great, great, great, great, great, great)), 72, from(60, 12)...)
	f.Regs, f.Code = 80, append([]api.Three{count(73), put(73), constant(74, 11), extra(75, 74), put(75)}, f.Code...)
	m := body("main", function(whole), 100)
	var out []int32
	for at := range 84 {
		m.Code = append(m.Code, constant(at, 1000+at))
		out = append(out, int32(1000+at))
	}
	m.Code = append(m.Code, call(from(85, 12), "f", f.Type, from(0, 84)...), put(85), put(96), back(90))
	want := slices.Concat([]int32{12, 1083}, out[:72], []int32{1060, 1071})
	ends(t, []api.Made{made(m, f)}, api.Shown{End: api.RunExit, Value: 1065, Steps: 84 + 1 + 5 + 72 + 1 + 3, Out: want})
}

// K1: each call has registers of its own, 0 at first but for the parameters.
func TestRegistersOfCalls(t *testing.T) {
	f := body("f", function(whole, whole), 4, put(0), put(1), put(3), constant(1, 5), constant(3, 6), duplicate(2, 0), back(2))
	code := []api.Three{constant(1, 8), constant(3, 9), call(row(0), "f", f.Type, 1), call(row(2), "f", f.Type, 3), put(0), put(1), put(2), put(3), back(8)}
	exits(t, code, []api.Body{f}, 9+2*7, 0, 8, 0, 0, 9, 0, 0, 8, 8, 9, 9)
	// A caller with fewer registers than who is called, and with more.
	g := body("g", function(whole, whole), 1, call(row(0), "f", f.Type, 0), back(0))
	big := body("big", function(whole, whole), api.MaxRegs, put(api.MaxRegs-1), call(row(api.MaxRegs-1), "g", g.Type, 0), constant(1, 3), back(api.MaxRegs-1))
	code = []api.Three{constant(1, 8), call(row(2), "big", big.Type, 1), call(row(2), "big", big.Type, 2), put(0), put(2), back(1)}
	exits(t, code, []api.Body{f, g, big}, 6+2*(4+2+7), 8, 0, 8, 0, 0, 0, 8, 0, 0, 0, 8)
}

// K1: functions that call themselves, and one another.
func TestCallsOfThemselves(t *testing.T) {
	x := function(whole, whole)
	sum := body("sum", x, 4, zero(0, 5), constant(1, 1), operation(2, api.OpSub, 0, 1), call(row(3), "sum", x, 2), operation(0, api.OpAdd, 0, 3), back(0))
	exits(t, []api.Three{constant(0, 10), call(row(1), "sum", x, 0), back(1)}, []api.Body{sum}, 3+10*6+2, 55)
	even := body("even", x, 2, zero(0, 4), constant(1, 1), operation(0, api.OpSub, 0, 1), call(row(1), "odd", x, 0), back(1))
	odd := even
	odd.Name, odd.Code = "odd", slices.Clone(even.Code)
	odd.Code[3].Name = "even"
	even.Code = append(even.Code[:4:4], back(1))
	even.Code[0] = zero(0, 5)
	even.Code = append(even.Code, constant(1, 1), back(1))
	exits(t, []api.Three{constant(0, 4), call(row(1), "even", x, 0), back(1)}, []api.Body{even, odd}, 3+4*5+3, 1)
	exits(t, []api.Three{constant(0, 5), call(row(1), "even", x, 0), back(1)}, []api.Body{even, odd}, 3+5*5+2, 0)
	// main calls itself, with a global that says when to stop.
	m := made(mainOf(load(0, "g", 0), put(0), zero(0, 7), constant(1, 1), operation(1, api.OpSub, 0, 1), store("g", 0, 1), call(row(0), "main", function(whole)), back(0)))
	m.Globals = []api.Global{{Name: "g", Type: whole, Value: 2}}
	ends(t, []api.Made{m}, api.Shown{End: api.RunExit, Steps: 8 + 8 + 4, Out: []int32{2, 1, 0}})
}

// one is a function that returns a number.
func one(name string, n int) api.Body {
	return body(name, function(whole), 1, constant(0, n), back(0))
}

// K3: functions are words: all units' bodies in order from 0 on, the static ones among them, whatever else the units have.
func TestFunctionsAsWords(t *testing.T) {
	x := function(whole)
	unit := func(asks string, own ...api.Body) api.Made {
		m := made(own...)
		m.Globals = []api.Global{{Name: "z", Type: long, Static: true}}
		for _, name := range strings.Fields(asks) {
			m.Outsides = append(m.Outsides, api.Outside{Name: name, Type: x, Fun: true})
		}
		return m
	}
	first := unit("c", static(one("a", 10)), mainOf(
		address(0, "a"), put(0), address(0, "main"), put(0), address(0, "c"), put(0), callr(row(0), x, 0), put(0),
		constant(1, 0), callr(row(1), x, 1), put(1), constant(1, 2), callr(row(2), x, 1), put(2), constant(1, 4), callr(row(2), x, 1), put(2), back(1)))
	second := unit("main", static(one("a", 20)), one("c", 30))
	third := unit("main c", static(one("c0", 40)), static(one("a", 50)))
	third.Bodies[0].Code = []api.Three{address(0, "c"), put(0), address(0, "main"), put(0), address(0, "a"), put(0), back(0)}
	// a of unit 0 is 0, main 1, a of unit 1 is 2, c 3, c0 4, a of unit 2 is 5.
	out := []int32{0, 1, 3, 30, 10, 20, 3, 1, 5, 5}
	ends(t, []api.Made{first, second, third}, api.Shown{End: api.RunExit, Value: 4, Steps: 18 + 2 + 2 + 2 + 7, Out: out})
}

// K3: calls of words: of what is no function, and of one of another type, a call is RunWrong, behind its step.
func TestCallsOfWords(t *testing.T) {
	x := function(whole)
	bodies := func(code ...api.Three) []api.Made {
		return []api.Made{made(one("a", 10), mainOf(code...)), made(body("b", function(long), 2, back(0, 1)), body("c", function(whole, whole), 1, back(0))), made(body("d", many(x), 1, back(0)), one("e", 50))}
	}
	for n, value := range map[int]int32{0: 10, 5: 50} {
		ends(t, bodies(constant(3, n), callr(row(3), x, 3), back(3)), api.Shown{End: api.RunExit, Value: value, Steps: 5})
	}
	for _, n := range []int{math.MinInt32, -256, -6, -1, 2, 3, 4, 6, 7, 256, 1 << 16, math.MaxInt32} {
		ends(t, bodies(constant(3, n), put(3), callr(row(3), x, 3), put(3), back(3)), api.Shown{End: api.RunWrong, Steps: 3, Out: []int32{int32(n)}})
	}
	for _, c := range []struct {
		o     api.Three
		is    int // the one function of its type, if there is one
		value int32
	}{
		{callr(row(4, 5), function(long), 3), 2, 2},
		{callr(row(3), function(whole, whole), 3, 3), 3, 3},
		{callr(row(3), many(x), 3), 4, 0},
		{callr(row(3), many(x), 3, 3, 3), 4, 0},
		{callr(row(3), function(structure(whole)), 3), -1, 0},
		{callr(row(3), function(whole, function(whole)), 3, 3), -1, 0},
		{callr(row(3), many(function(whole, whole)), 3, 3), -1, 0},
	} {
		for n := range 7 {
			want := api.Shown{End: api.RunWrong, Steps: 2}
			if n == c.is {
				want = api.Shown{End: api.RunExit, Value: c.value, Steps: 4}
			}
			ends(t, bodies(constant(3, n), c.o, back(3)), want)
		}
	}
}

// K1: the rest of S are a called word's parameters, also where D and S have the word itself.
func TestParametersOfCalledWords(t *testing.T) {
	f := told("f", function(triple, whole, long), 3, 2, 0, 1)
	code := append(numbers(3), address(4, "f"), callr(row(4, 1, 2), f.Type, 4, 3, 2, 1), put(4), put(1), put(2), callr(row(4, 5, 6), f.Type, 3, 3, 3, 3), back(4))
	ends(t, []api.Made{made(mainOf(code...), f)}, api.Shown{End: api.RunWrong, Steps: 13, Out: []int32{103, 102, 101, 101, 103, 102}})
	code = append(numbers(3), address(4, "f"), callr(row(0, 1, 2), f.Type, 4, 4, 4, 4), put(0), back(4))
	exits(t, code, []api.Body{f}, 11, 1, 1, 1, 1, 1)
}

// K1: any number of words: how many there are, and each of them, and none beyond both ends.
func TestWordsBeyond(t *testing.T) {
	x := many(function(long, whole))
	f := body("f", x, 3, count(1), extra(2, 0), back(1, 2))
	for _, through := range []bool{false, true} {
		for n := range 2*api.MaxParams + 1 {
			for _, at := range []int{math.MinInt32, -256, -1, 0, 1, 5, n - 1, n, n + 1, 11, 12, 13, 256, math.MaxInt32} {
				m := body("main", function(whole), 40, constant(0, at), address(1, "f"))
				for i := range n {
					m.Code = append(m.Code, constant(10+i, 700+i))
				}
				s := append(row(0), from(10, n)...)
				if through {
					m.Code = append(m.Code, callr(row(2, 3), x, append(row(1), s...)...))
				} else {
					m.Code = append(m.Code, call(row(2, 3), "f", x, s...))
				}
				m.Code = append(m.Code, put(2), back(3))
				value := 0
				if at >= 0 && at < n {
					value = 700 + at
				}
				shows(t, []api.Made{made(m, f)}, 100, api.Shown{End: api.RunExit, Value: int32(value), Steps: n + 2 + 1 + 3 + 2, Out: []int32{int32(n)}})
			}
		}
	}
	if t.Failed() {
		return
	}
	// The words beyond are those of the call in which they are asked for, and they stay what they were.
	inner := body("inner", many(function(whole)), 2, count(0), put(0), extra(0, 1), back(0))
	outer := body("outer", many(function(whole)), 3, count(0), put(0), call(row(1), "inner", inner.Type, 0), put(1), call(row(1), "inner", inner.Type), put(1), constant(2, 1), extra(0, 2), put(0), count(0), put(0), back(0))
	code := []api.Three{constant(0, 7), constant(1, 8), constant(2, 9), call(row(3), "outer", outer.Type, 0, 1, 2), back(3)}
	exits(t, code, []api.Body{inner, outer}, 5+12+4+4, 3, 3, 1, 3, 0, 0, 8, 3)
}

// down is a function that calls itself as often as its parameter says, through its name or through a word.
func down(through bool) api.Body {
	x := function(whole, whole)
	next := call(row(0), "down", x, 0)
	if through {
		next = callr(row(0), x, 2, 0)
	}
	return body("down", x, 3, zero(0, 5), constant(1, 1), operation(0, api.OpSub, 0, 1), address(2, "down"), next, back(0))
}

// K3: 2999, 3000 and 3001 calls that have not returned, main's among them.
func TestDeepest(t *testing.T) {
	for _, through := range []bool{false, true} {
		f := down(through)
		unit := func(n int) []api.Made {
			return []api.Made{made(mainOf(constant(0, n), put(0), call(row(0), "down", f.Type, 0), put(0), back(0)), f)}
		}
		// Besides main and the one of 0 there are n calls.
		for _, calls := range []int{2998, 2999, 3000} {
			n := calls - 2
			shows(t, unit(n), api.MaxFuel, api.Shown{End: api.RunExit, Steps: 5 + 6*n + 2, Out: []int32{int32(n), 0}})
		}
		for _, calls := range []int{3001, 3002, 50000} {
			n := calls - 2
			shows(t, unit(n), api.MaxFuel, api.Shown{Steps: 3 + 5*2999, Out: []int32{int32(n)}})
			shows(t, unit(n), 3+5*2999, api.Shown{Steps: 3 + 5*2999, Out: []int32{int32(n)}})
			shows(t, unit(n), 3+5*2999-1, api.Shown{Steps: 3 + 5*2999 - 1, Out: []int32{int32(n)}})
		}
	}
}

// K3: calls that returned do not count.
func TestCallsThatReturned(t *testing.T) {
	f := down(false)
	code := []api.Three{constant(3, 5), constant(4, 1), zero(3, 7), constant(0, 2998), call(row(0), "down", f.Type, 0), operation(3, api.OpSub, 3, 4), jump(2), back(0)}
	m := made(mainOf(code...), f)
	shows(t, []api.Made{m}, api.MaxFuel, api.Shown{End: api.RunExit, Steps: 2 + 5*(5+6*2998+2) + 2})
	once := one("f", 4)
	code = []api.Three{constant(3, 9000), constant(4, 1), zero(3, 6), call(row(0), "f", once.Type), operation(3, api.OpSub, 3, 4), jump(2), back(0)}
	shows(t, []api.Made{made(mainOf(code...), once)}, api.MaxFuel, api.Shown{End: api.RunExit, Value: 4, Steps: 2 + 9000*6 + 2})
}

// K3: where no call more may be made, a call of a word that is no function of its type is RunWrong still; and other ends are what they are.
func TestEndsThatAreDeep(t *testing.T) {
	x := function(whole, whole)
	for _, c := range []struct {
		last api.Three
		end  int
	}{
		{callr(row(0), x, 1, 0), api.RunFuel}, // of the word 1, which is the function itself
		{call(row(0), "down", x, 0), api.RunFuel},
		{callr(row(0), function(whole), 1), api.RunWrong},
		{callr(row(0, 1), function(long, whole), 1, 0), api.RunWrong},
		{operation(0, api.OpDiv, 0, 0), api.RunDivided},
	} {
		f := body("down", x, 3, zero(0, 5), constant(1, 1), operation(0, api.OpSub, 0, 1), call(row(0), "down", x, 0), back(0), constant(1, 1), c.last, back(0))
		m := made(mainOf(constant(0, 2998), call(row(0), "down", x, 0), back(0)), f)
		shows(t, []api.Made{m}, api.MaxFuel, api.Shown{End: c.end, Steps: 2 + 4*2998 + 3})
	}
	wrong := body("down", x, 3, zero(0, 5), constant(1, 1), operation(0, api.OpSub, 0, 1), call(row(0), "down", x, 0), back(0), constant(1, 2), callr(row(0), x, 1, 0), back(0))
	shows(t, []api.Made{made(mainOf(constant(0, 2998), call(row(0), "down", x, 0), back(0)), wrong)}, api.MaxFuel, api.Shown{End: api.RunWrong, Steps: 2 + 4*2998 + 3})
}

// P1: calls of the greatest bodies, as deep and as many as there may be.
func TestGreatCalls(t *testing.T) {
	f := down(false)
	f.Regs = api.MaxRegs
	last := api.MaxRegs - 1
	f.Code[3] = duplicate(last, 0)
	m := made(mainOf(constant(0, 2998), call(row(0), "down", f.Type, 0), back(0)), f)
	shows(t, []api.Made{m}, api.MaxFuel, api.Shown{End: api.RunExit, Steps: 3 + 6*2998 + 2})
	empty := body("f", function(whole), api.MaxRegs, back(last))
	m = made(mainOf(call(row(0), "f", empty.Type), zero(0, 0), back(0)), empty)
	shows(t, []api.Made{m}, api.MaxFuel, api.Shown{Steps: api.MaxFuel})
}
