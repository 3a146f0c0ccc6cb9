package emit_test

import (
	"slices"
	"testing"

	"scarfjoint/api"
)

// kinds are types of parameters and results, of every sort of chapter 9.
func kinds() []api.Type {
	return []api.Type{whole, long, ints(1), ints(2), structure(long), ints(3), even, ints(4), ints(5), structure(whole, long, whole), ints(12), wide, function(whole)}
}

// teller is a function that tells all words that it was given, with how many lie beyond and those, also such as are none, then changes its parameters and tells them again; it returns so many of the first of those that it was given, and then numbers from 800 on.
func teller(name string, t api.Type) api.Body {
	params, result := words(t)
	b := body(name, t, params+result+5)
	n, at, more := params+result, params+result+1, params+result+2
	if t.Many {
		b.Code = append(b.Code, count(n), put(n))
		for _, number := range []int{-1, 0, 1, 2, 3, 11, 12, 1 << 30, -1 << 31} {
			b.Code = append(b.Code, constant(at, number), extra(more, at), put(more))
		}
		// The number and the word in one register.
		b.Code = append(b.Code, constant(at, 1), extra(at, at), put(at))
	}
	b.Code = append(b.Code, puts(from(0, params)...)...)
	for word := range result {
		if word < params {
			b.Code = append(b.Code, duplicate(params+word, word))
		} else {
			b.Code = append(b.Code, constant(params+word, 800+word))
		}
	}
	b.Code = append(append(b.Code, constants(0, params, 700)...), puts(from(0, params)...)...)
	b.Code = append(b.Code, back(from(params, result)...))
	return b
}

// tellerOut is what a teller tells of some words, and what it returns.
func tellerOut(t api.Type, given []int32) (out, result []int32) {
	params, results := words(t)
	if beyond := given[params:]; t.Many {
		extra := func(n int) int32 {
			if n < 0 || n >= len(beyond) {
				return 0
			}
			return beyond[n]
		}
		out = append(out, int32(len(beyond)))
		for _, number := range []int{-1, 0, 1, 2, 3, 11, 12, 1 << 30, -1 << 31, 1} {
			out = append(out, extra(number))
		}
	}
	out = append(out, given[:params]...)
	for at := range params {
		out = append(out, int32(700+at))
	}
	for word := range results {
		if word < params {
			result = append(result, given[word])
		} else {
			result = append(result, int32(800+word))
		}
	}
	return out, result
}

// numbers is so many numbers, from one on.
func numbers(first, n int) []int32 {
	var l []int32
	for at := range n {
		l = append(l, int32(first+at))
	}
	return l
}

// asks is main with a call of a function of a type, with so many words beyond: it tells what comes back, and then all that it gave, twice; by a name, or of a word.
func asks(t api.Type, beyond int, byWord bool) api.Body {
	params, result := words(t)
	given := params + beyond
	b := body("main", function(whole), given+result+1, constants(0, given, 100)...)
	d, s := from(given, result), from(0, given)
	if byWord {
		b.Code = append(b.Code, address(given+result, "f"), callr(d, t, append(row(given+result), s...)...))
	} else {
		b.Code = append(b.Code, call(d, "f", t, s...))
	}
	for _, l := range [][]int{d, s, s} {
		b.Code = append(b.Code, puts(l...)...)
	}
	b.Code = append(b.Code, back(given))
	return b
}

// asked holds a call of a type, with so many words beyond, by a name and of a word, within a unit and between two.
func asked(t *testing.T, x api.Type, beyond int) {
	t.Helper()
	params, _ := words(x)
	given := numbers(100, params+beyond)
	out, result := tellerOut(x, given)
	out = slices.Concat(out, result, given, given)
	f := teller("f", x)
	for _, byWord := range []bool{false, true} {
		m := asks(x, beyond, byWord)
		exits(t, []api.Body{m, f}, result[0], out...)
		first := api.Made{Bodies: []api.Body{m}, Outsides: []api.Outside{outside(f)}}
		shows(t, []api.Made{first, made(f)}, api.EndExit, result[0], out...)
	}
	if t.Failed() {
		t.FailNow()
	}
}

// Q2: calls of functions of every sort: no parameters, and one of each kind, with results of each kind.
func TestOneParameter(t *testing.T) {
	t.Parallel()
	for _, result := range kinds() {
		asked(t, function(result), 0)
		asked(t, many(function(result)), 0)
		asked(t, many(function(result)), 5)
		for _, param := range kinds() {
			asked(t, function(result, param), 0)
			asked(t, many(function(result, param)), 3)
		}
	}
}

// Q2: all rows of two and three parameters; the results take turns.
func TestMoreParameters(t *testing.T) {
	t.Parallel()
	turn := 0
	for _, a := range kinds() {
		for _, b := range kinds() {
			turn++
			result := kinds()[turn%len(kinds())]
			asked(t, function(result, a, b), 0)
			asked(t, many(function(result, a, b)), turn%13)
		}
	}
	few := []api.Type{whole, long, ints(3), even, ints(5), wide}
	for _, a := range few {
		for _, b := range few {
			for _, c := range few {
				turn++
				x := function(kinds()[turn%len(kinds())], a, b, c)
				beyond := turn % 3
				x.Many = beyond > 0
				asked(t, x, beyond)
			}
		}
	}
}

// Q2: the most parameters, of each kind, and the most words beyond.
func TestMostParameters(t *testing.T) {
	t.Parallel()
	for _, param := range kinds() {
		for _, result := range []api.Type{whole, long, ints(3), wide} {
			x := function(result, some(api.MaxParams, param)...)
			asked(t, x, 0)
			for _, beyond := range []int{0, 1, 2, 7, 2 * api.MaxParams} {
				asked(t, many(x), beyond)
			}
		}
	}
	mixed := function(even, long, whole, even, ints(5), ints(3), whole)
	asked(t, mixed, 0)
	asked(t, many(mixed), 2*api.MaxParams)
}

// Q2: words that are given twice, that change places, and what comes back in a register that was given.
func TestSameRegisters(t *testing.T) {
	swap := body("f", function(long, long), 2, back(1, 0))
	sum := body("g", function(whole, some(6, whole)...), 7)
	sum.Code = append(puts(from(0, 6)...), operation(0, api.OpAdd, 0, 5), back(0))
	for _, others := range crowds {
		code := []api.Three{constant(0, 1), constant(1, 2), call(row(0, 1), "f", swap.Type, 0, 1), put(0), put(1), call(row(1, 0), "f", swap.Type, 0, 1), put(0), put(1), call(row(2, 0), "f", swap.Type, 1, 1), put(0), put(1), put(2),
			call(row(3), "g", sum.Type, 1, 1, 2, 0, 0, 1), put(3), call(row(1), "g", sum.Type, 3, 2, 1, 0, 1, 2), put(1)}
		out := []int32{2, 1, 2, 1, 1, 1, 1, 1, 1, 1, 1, 1, 1, 2, 2, 1, 1, 1, 1, 1, 3}
		exits(t, []api.Body{amid(others, code...), swap, sum}, 1, amidOut(others, out...)...)
	}
	// All of four in a circle, and two circles.
	turn := body("f", function(whole, some(4, whole)...), 4, append(puts(from(0, 4)...), back(2))...)
	again := func(to ...int) api.Body {
		return body("g", turn.Type, 4, call(row(0), "f", turn.Type, to...), operation(0, api.OpAdd, 0, 0), back(0))
	}
	for _, to := range [][]int{{1, 2, 3, 0}, {3, 0, 1, 2}, {1, 0, 3, 2}, {2, 3, 0, 1}, {0, 0, 3, 3}, {3, 3, 3, 0}, {0, 1, 2, 3}} {
		var out []int32
		for _, at := range to {
			out = append(out, int32(40+at))
		}
		m := mainOf(append(constants(0, 4, 40), call(row(5), "g", turn.Type, 0, 1, 2, 3), back(5))...)
		exits(t, []api.Body{m, turn, again(to...)}, 2*out[2], out...)
	}
}

// Q2: what is copied and then changed by the called one stays as it was for who calls: for both, over several calls, and where it is handed on.
func TestCopiesThatAreChanged(t *testing.T) {
	x := function(ints(6), ints(6), ints(5))
	inner := teller("inner", x)
	outer := body("f", x, 20)
	outer.Code = append(puts(from(0, 11)...), call(from(11, 6), "inner", x, slices.Concat(row(5, 4, 3, 2, 1, 0), from(6, 5))...))
	outer.Code = append(append(outer.Code, puts(from(0, 11)...)...), constant(0, 1), constant(6, 2), put(0), put(6), back(from(11, 6)...))
	given := numbers(100, 11)
	innerGiven := []int32{105, 104, 103, 102, 101, 100, 106, 107, 108, 109, 110}
	told, result := tellerOut(x, innerGiven)
	once := slices.Concat(given, told, given, []int32{1, 2}, result)
	m := body("main", function(whole), 30, constants(0, 11, 100)...)
	var out []int32
	for range 3 {
		m.Code = append(append(m.Code, call(from(12, 6), "f", x, from(0, 11)...)), puts(from(12, 6)...)...)
		out = append(out, once...)
	}
	m.Code = append(append(m.Code, puts(from(0, 11)...)...), back(17))
	exits(t, []api.Body{m, outer, inner}, 100, append(out, given...)...)
	// The same registers for two copies.
	twice := body("main", function(whole), 30, append(constants(0, 6, 100), call(from(10, 6), "inner", x, slices.Concat(from(0, 6), from(1, 5))...))...)
	twice.Code = append(append(twice.Code, puts(from(0, 6)...)...), back(10))
	given = slices.Concat(numbers(100, 6), numbers(101, 5))
	told, _ = tellerOut(x, given)
	exits(t, []api.Body{twice, inner}, 100, append(told, given[:6]...)...)
}

// Q2: calls in a row, each of another sort, so that all of them lie in one frame; what is in use across them stays.
func TestCallsInARow(t *testing.T) {
	l := []api.Body{{}}
	m := body("main", function(whole), 200, constants(100, 90, 100)...)
	var out []int32
	for at, x := range []api.Type{
		function(whole), function(wide, wide, ints(3)), many(function(long, whole)), function(ints(3), some(6, even)...), function(long, some(6, wide)...),
		many(function(ints(5), ints(5))), function(whole, long, whole, long), many(function(whole)),
	} {
		f := teller(string(rune('a'+at)), x)
		l = append(l, f)
		params, result := words(x)
		if x.Many {
			params += at
		}
		m.Code = append(append(m.Code, call(from(0, result), f.Name, x, from(100, params)...)), puts(from(0, result)...)...)
		told, returned := tellerOut(x, numbers(100, params))
		out = append(append(out, told...), returned...)
	}
	m.Code = append(append(m.Code, puts(from(100, 90)...)...), back(189))
	l[0] = m
	exits(t, l, 189, append(out, numbers(100, 90)...)...)
}

// Q2: functions that call themselves, and one another, with something in use across each call.
func TestRecursion(t *testing.T) {
	x := function(whole, whole)
	fib := body("f", x, 6, constant(1, 2), operation(2, api.OpLess, 0, 1), zero(2, 4), back(0),
		constant(1, -1), operation(0, api.OpAdd, 0, 1), call(row(3), "f", x, 0), operation(0, api.OpAdd, 0, 1), call(row(4), "f", x, 0), operation(3, api.OpAdd, 3, 4), back(3))
	exits(t, []api.Body{mainOf(constant(0, 9), call(row(1), "f", x, 0), put(1), back(0)), fib}, 9, 34)
	// A result of many words, and copies, at each of some depths.
	y := function(wide, wide, whole)
	deep := body("f", y, 30, zero(12, 6), constant(13, -1), operation(14, api.OpAdd, 12, 13), call(from(15, 12), "f", y, append(from(0, 12), 14)...), operation(15, api.OpAdd, 15, 12), back(from(15, 12)...), back(slices.Concat(row(11, 10, 9, 8, 7, 6, 5, 4, 3, 2, 1, 0))...))
	m := body("main", function(whole), 30, append(constants(0, 12, 50), constant(12, 6), call(from(13, 12), "f", y, from(0, 13)...))...)
	m.Code = append(append(m.Code, puts(from(13, 12)...)...), back(0))
	exits(t, []api.Body{m, deep}, 50, 61+21, 60, 59, 58, 57, 56, 55, 54, 53, 52, 51, 50)
}

// Q2: recursion till the room is used up: the run ends by EndFull, and what was told till then is what the orders tell first.
func TestNoRoom(t *testing.T) {
	for _, regs := range []int{4, 14, 40, 200} {
		x := function(whole, whole)
		f := body("f", x, regs, put(0), zero(0, 5), constant(1, -1), operation(2, api.OpAdd, 0, 1), call(row(3), "f", x, 2))
		f.Code = append(append(f.Code, puts(from(0, regs)...)...), back(3))
		m := mainOf(constant(0, 2500), call(row(1), "f", x, 0), put(1), back(1))
		l := []api.Made{made(m, f)}
		w := means(t, l)
		if regs > 4 && w.End != api.EndFull || len(w.Out) < 60 || w.Out[59] != 2500-59 {
			t.Errorf("%d registers: %s", regs, told(w.Stop))
		}
		// Each memory has room for so many frames, and no more.
		all := objects(t, l)
		image, ranges, _ := linked(t, all, api.MaxMemory)
		low := len(image.Code) + len(image.Data)
		mainFrame, frame := ranges[0].Frame, ranges[1].Frame
		for memory := low + 16; memory < low+16+5*frame && memory <= api.MaxMemory; memory += 1 + frame/9 {
			image.Memory = memory
			w := watch(t, image, ranges, api.MaxFuel)
			if depth := max(0, memory-low-mainFrame) / frame; w.End != api.EndFull || len(w.Out) != depth {
				t.Fatalf("%d registers, memory %d: %s, not %d", regs, memory, told(w.Stop), depth)
			}
		}
	}
}

// Q2: several units that call each other, with static names that are the same in two of them.
func TestUnits(t *testing.T) {
	x := function(whole, whole)
	unit := func(own, next string, n int) api.Made {
		same := static(body("same", x, 2, constant(1, n), operation(0, api.OpAdd, 0, 1), put(0), load(1, "held", 0), operation(1, api.OpAdd, 0, 1), store("held", 0, 1), back(1)))
		b := body(own, x, 4, constant(1, 1), operation(2, api.OpSub, 0, 1), call(row(3), "same", x, 0), zero(0, 6), call(row(0), next, x, 2), put(3), back(3))
		return api.Made{
			Bodies:   []api.Body{same, b},
			Globals:  []api.Global{{Name: "held", Type: whole, Static: true, Value: int64(n * 1000)}},
			Outsides: []api.Outside{{Name: next, Type: x, Fun: true}},
		}
	}
	l := []api.Made{unit("a", "b", 10), unit("b", "c", 20), unit("c", "a", 30)}
	m := api.Made{Bodies: []api.Body{mainOf(constant(0, 4), call(row(1), "a", x, 0), put(1), call(row(1), "b", x, 0), back(1))}, Outsides: []api.Outside{{Name: "a", Type: x, Fun: true}, {Name: "b", Type: x, Fun: true}}}
	l = append(l, m)
	var first []int32
	for range 4 {
		w := means(t, l)
		if first == nil {
			first = w.Out
		}
		if w.End != api.EndExit || len(w.Out) < 15 || !slices.Equal(w.Out, first) {
			t.Errorf("%s\n%s", text(l...), told(w.Stop))
		}
		l = append(l[1:], l[0])
	}
}
