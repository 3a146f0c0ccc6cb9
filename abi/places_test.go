package abi_test

import (
	"strings"
	"testing"

	"scarfjoint/abi"
	"scarfjoint/api"
)

// laid is a call, and what is to be told of it, as shown writes it; what is left out there at the end is not asked for.
type laid struct {
	name   string
	call   api.Type
	beyond []api.Type
	want   string
}

func checkLaid(t *testing.T, l []laid) {
	t.Helper()
	for _, c := range l {
		p, e := abi.Places(c.call, c.beyond)
		if e != api.OK || len(p.Copied) != len(p.Params) {
			t.Errorf("%s: %d, %+v", c.name, e, p)
			continue
		}
		if text := shown(p); !strings.HasPrefix(text, c.want) {
			t.Errorf("%s: %s, not %s", c.name, text, c.want)
		}
	}
}

// The structs of the tests below: pair and wide are even.
var (
	pair  = structure(long)                     // two words
	wide  = structure(whole, long)              // four words
	huge  = structure(whole, long, whole)       // six words, even
	twice = structure(structure(whole, whole))  // two words
	other = function(long, long, ints(5), long) // one word
)

// I1, I2: the example of the chapter, all of it.
func TestExample(t *testing.T) {
	checkLaid(t, []laid{{"the example", function(whole, long, whole, whole), nil, "(r0, r2 r3, s0) result -1 count -1 results [0] area 2 extra 0"}})
}

// I2, I3: results of one word, of two, and of more: at an address then, that has the register 0.
func TestResults(t *testing.T) {
	checkLaid(t, []laid{
		{"int", function(whole), nil, "() result -1 count -1 results [0] area 0 extra 0"},
		{"a function", function(other), nil, "() result -1 count -1 results [0] area 0 extra 0"},
		{"a struct of an int", function(ints(1)), nil, "() result -1 count -1 results [0] area 0 extra 0"},
		{"long", function(long), nil, "() result -1 count -1 results [0 1] area 0 extra 0"},
		{"a struct of two ints", function(ints(2)), nil, "() result -1 count -1 results [0 1] area 0 extra 0"},
		{"a struct of a long", function(pair), nil, "() result -1 count -1 results [0 1] area 0 extra 0"},
		{"a struct of three ints", function(ints(3)), nil, "() result 0 count -1 results [] area 0 extra 0"},
		{"four words", function(ints(4)), nil, "() result 0 count -1 results [] area 0 extra 0"},
		{"four words, even", function(wide), nil, "() result 0 count -1 results [] area 0 extra 0"},
		{"five words", function(ints(5)), nil, "() result 0 count -1 results [] area 0 extra 0"},
		{"twelve words", function(ints(12)), nil, "() result 0 count -1 results [] area 0 extra 0"},
		{"results leave the parameters' registers alone", function(whole, whole, long), nil, "(r0, r1) result -1 count -1 results [0 1] area 0 extra 0"},
		{"an address ahead of an int", function(whole, ints(3)), nil, "(r1) result 0 count -1 results [] area 0 extra 0"},
		{"an address ahead of a long", function(long, ints(3)), nil, "(r2 r3) result 0 count -1 results [] area 0 extra 0"},
		{"an address ahead of four words", function(ints(4), ints(3)), nil, "(r1 r2 r3 s0) result 0 count -1 results [] area 2 extra 0"},
		{"an address ahead of four ints", function(whole, whole, whole, whole, wide), nil, "(r1, r2, r3, s0) result 0 count -1 results [] area 2 extra 0"},
	})
}

// I2: functions of any number, with and without a result at an address.
func TestAnyNumber(t *testing.T) {
	checkLaid(t, []laid{
		{"nothing", many(function(whole)), nil, "() result -1 count 0 results [0] area 0 extra 0"},
		{"nothing, of a long", many(function(long)), nil, "() result -1 count 0 results [0 1] area 0 extra 0"},
		{"nothing, with an address", many(function(ints(3))), nil, "() result 0 count 1 results [] area 0 extra 0"},
		{"an int", many(function(whole, whole)), nil, "(r1) result -1 count 0 results [0] area 0 extra 0"},
		{"a long", many(function(long, whole)), nil, "(r2 r3) result -1 count 0 results [0] area 0 extra 0"},
		{"an int, with an address", many(function(whole, wide)), nil, "(r2) result 0 count 1 results [] area 0 extra 0"},
		{"a long, with an address", many(function(long, wide)), nil, "(r2 r3) result 0 count 1 results [] area 0 extra 0"},
		{"an int and a long, with an address", many(function(whole, long, huge)), nil, "(r2, s0 s1) result 0 count 1 results [] area 2 extra 2"},
		{"from an odd place on, with none beyond", many(function(whole, whole, whole, whole, whole)), nil, "(r1, r2, r3, s0) result -1 count 0 results [0] area 2 extra 2"},
		{"from an even place on, with none beyond", many(function(whole, whole, whole, whole, whole, whole)), nil, "(r1, r2, r3, s0, s1) result -1 count 0 results [0] area 2 extra 2"},
	})
}

// I2: words beyond, one behind the other, from an even place on; none lies in a register, though some are free.
func TestBeyond(t *testing.T) {
	bare, odd, even := many(function(whole)), many(function(ints(4), whole)), many(function(ints(4), whole, whole))
	list := func(l ...api.Type) []api.Type { return l }
	checkLaid(t, []laid{
		{"an int", bare, list(whole), "() result -1 count 0 results [0] area 2 extra 0"},
		{"a long", bare, list(long), "() result -1 count 0 results [0] area 2 extra 0"},
		{"two ints", bare, list(whole, whole), "() result -1 count 0 results [0] area 2 extra 0"},
		{"an int and a long", bare, list(whole, long), "() result -1 count 0 results [0] area 4 extra 0"},
		{"a long and an int", bare, list(long, whole), "() result -1 count 0 results [0] area 4 extra 0"},
		{"nothing is left out ahead of a long", bare, list(whole, long, whole), "() result -1 count 0 results [0] area 4 extra 0"},
		{"nor ahead of several", bare, list(whole, long, whole, whole, long, whole), "() result -1 count 0 results [0] area 8 extra 0"},
		{"an odd number in all", bare, list(whole, long, long), "() result -1 count 0 results [0] area 6 extra 0"},
		{"six ints", bare, times(6, whole), "() result -1 count 0 results [0] area 6 extra 0"},
		{"six longs", bare, times(6, long), "() result -1 count 0 results [0] area 12 extra 0"},
		{"with an address", many(function(ints(12))), list(whole, long), "() result 0 count 1 results [] area 4 extra 0"},
		{"from an odd place on, an int", odd, list(whole), "(r1 r2 r3 s0) result -1 count 0 results [0] area 4 extra 2"},
		{"from an odd place on, a long", odd, list(long), "(r1 r2 r3 s0) result -1 count 0 results [0] area 4 extra 2"},
		{"from an odd place on, both", odd, list(whole, long), "(r1 r2 r3 s0) result -1 count 0 results [0] area 6 extra 2"},
		{"from an even place on, an int", even, list(whole), "(r1 r2 r3 s0, s1) result -1 count 0 results [0] area 4 extra 2"},
		{"from an even place on, three longs", even, list(long, long, long), "(r1 r2 r3 s0, s1) result -1 count 0 results [0] area 8 extra 2"},
		{"registers are left", many(function(long, whole, whole)), list(whole), "(r2 r3, s0) result -1 count 0 results [0] area 4 extra 2"},
		{"a register is free", many(function(whole, whole)), list(whole, whole), "(r1) result -1 count 0 results [0] area 2 extra 0"},
	})
}

// I2: one parameter of each size.
func TestOneParameter(t *testing.T) {
	checkLaid(t, []laid{
		{"none", function(whole), nil, "() "},
		{"int", function(whole, whole), nil, "(r0) result -1 count -1 results [0] area 0 extra 0"},
		{"long", function(long, whole), nil, "(r0 r1) result -1 count -1 results [0] area 0 extra 0"},
		{"a function", function(other, whole), nil, "(r0) "},
		{"one word", function(ints(1), whole), nil, "(r0) "},
		{"a struct of a function", function(structure(function(long)), whole), nil, "(r0) "},
		{"two words", function(ints(2), whole), nil, "(r0 r1) "},
		{"two words, two deep", function(twice, whole), nil, "(r0 r1) "},
		{"two words, even", function(pair, whole), nil, "(r0 r1) "},
		{"three words", function(ints(3), whole), nil, "(r0 r1 r2) "},
		{"four words", function(ints(4), whole), nil, "(r0 r1 r2 r3) result -1 count -1 results [0] area 0 extra 0"},
		{"four words, even", function(wide, whole), nil, "(r0 r1 r2 r3) result -1 count -1 results [0] area 0 extra 0"},
		{"five words", function(ints(5), whole), nil, "(*r0) result -1 count -1 results [0] area 0 extra 0"},
		{"six words, even", function(huge, whole), nil, "(*r0) result -1 count -1 results [0] area 0 extra 0"},
		{"twelve words", function(ints(12), whole), nil, "(*r0) result -1 count -1 results [0] area 0 extra 0"},
	})
}

// I2: a register is left out ahead of an even one; it is not free any more.
func TestRegistersLeftOut(t *testing.T) {
	checkLaid(t, []laid{
		{"a long behind one word", function(whole, long, whole), nil, "(r0, r2 r3) result -1 count -1 results [0] area 0 extra 0"},
		{"a long behind a function", function(other, long, whole), nil, "(r0, r2 r3) "},
		{"a long behind two words", function(ints(2), long, whole), nil, "(r0 r1, r2 r3) "},
		{"two longs", function(long, long, whole), nil, "(r0 r1, r2 r3) "},
		{"an even struct behind one word", function(whole, pair, whole), nil, "(r0, r2 r3) "},
		{"another struct behind one word", function(whole, ints(2), whole), nil, "(r0, r1 r2) "},
		{"and an int behind that", function(whole, ints(2), whole, whole), nil, "(r0, r1 r2, r3) "},
		{"one register is free for a long", function(ints(3), long, whole), nil, "(r0 r1 r2, s0 s1) result -1 count -1 results [0] area 2 extra 0"},
		{"one register is free for an even struct", function(ints(3), pair, whole), nil, "(r0 r1 r2, s0 s1) result -1 count -1 results [0] area 2 extra 0"},
		{"one register is free for a large even struct", function(ints(3), wide, whole), nil, "(r0 r1 r2, s0 s1 s2 s3) result -1 count -1 results [0] area 4 extra 0"},
		{"one register is free for two words", function(ints(3), ints(2), whole), nil, "(r0 r1 r2, r3 s0) result -1 count -1 results [0] area 2 extra 0"},
		{"the register that was left out stays so", function(ints(3), long, whole, whole), nil, "(r0 r1 r2, s0 s1, s2) result -1 count -1 results [0] area 4 extra 0"},
		{"for a struct, too", function(ints(3), long, ints(3), whole), nil, "(r0 r1 r2, s0 s1, s2 s3 s4) result -1 count -1 results [0] area 6 extra 0"},
		{"for a copied one, too", function(ints(3), long, ints(5), whole), nil, "(r0 r1 r2, s0 s1, *s2) "},
		{"the one between stays so", function(whole, long, whole, whole, whole), nil, "(r0, r2 r3, s0, s1) result -1 count -1 results [0] area 2 extra 0"},
		{"for a copied one, too", function(whole, long, huge, whole), nil, "(r0, r2 r3, *s0) "},
		{"with an address", function(long, whole, huge), nil, "(r2 r3, s0) result 0 count -1 results [] area 2 extra 0"},
		{"with an address and how many", many(function(whole, long, whole, huge)), nil, "(r2, s0 s1, s2) result 0 count 1 results [] area 4 extra 4"},
	})
}

// I2: structs that lie half in registers and half on the area.
func TestHalf(t *testing.T) {
	checkLaid(t, []laid{
		{"one and three", function(ints(3), ints(4), whole), nil, "(r0 r1 r2, r3 s0 s1 s2) result -1 count -1 results [0] area 4 extra 0"},
		{"one and two", function(ints(3), ints(3), whole), nil, "(r0 r1 r2, r3 s0 s1) result -1 count -1 results [0] area 2 extra 0"},
		{"two and two", function(ints(2), ints(4), whole), nil, "(r0 r1, r2 r3 s0 s1) result -1 count -1 results [0] area 2 extra 0"},
		{"two and one", function(ints(2), ints(3), whole), nil, "(r0 r1, r2 r3 s0) result -1 count -1 results [0] area 2 extra 0"},
		{"three and one", function(whole, ints(4), whole), nil, "(r0, r1 r2 r3 s0) result -1 count -1 results [0] area 2 extra 0"},
		{"an even one", function(whole, wide, whole), nil, "(r0, r2 r3 s0 s1) result -1 count -1 results [0] area 2 extra 0"},
		{"an even one behind a long", function(long, wide, whole), nil, "(r0 r1, r2 r3 s0 s1) result -1 count -1 results [0] area 2 extra 0"},
		{"an even one behind an address and how many", many(function(wide, wide)), nil, "(r2 r3 s0 s1) result 0 count 1 results [] area 2 extra 2"},
		{"what comes behind it", function(whole, ints(4), whole, whole), nil, "(r0, r1 r2 r3 s0, s1) result -1 count -1 results [0] area 2 extra 0"},
		{"an even one behind it", function(whole, ints(4), long, whole), nil, "(r0, r1 r2 r3 s0, s2 s3) result -1 count -1 results [0] area 4 extra 0"},
	})
}

// I2: even ones on the area lie from an even place on; the place that is left out is not given any more.
func TestPlacesLeftOut(t *testing.T) {
	four := ints(4)
	checkLaid(t, []laid{
		{"a long at once", function(four, long, whole), nil, "(r0 r1 r2 r3, s0 s1) result -1 count -1 results [0] area 2 extra 0"},
		{"a long behind an int", function(four, whole, long, whole), nil, "(r0 r1 r2 r3, s0, s2 s3) result -1 count -1 results [0] area 4 extra 0"},
		{"and an int behind that", function(four, whole, long, whole, whole), nil, "(r0 r1 r2 r3, s0, s2 s3, s4) result -1 count -1 results [0] area 6 extra 0"},
		{"a long behind two ints", function(four, whole, whole, long, whole), nil, "(r0 r1 r2 r3, s0, s1, s2 s3) "},
		{"two words behind an int", function(four, whole, ints(2), whole), nil, "(r0 r1 r2 r3, s0, s1 s2) result -1 count -1 results [0] area 4 extra 0"},
		{"an even struct behind an int", function(four, whole, pair, whole), nil, "(r0 r1 r2 r3, s0, s2 s3) "},
		{"a large one behind an int", function(four, whole, wide, whole), nil, "(r0 r1 r2 r3, s0, s2 s3 s4 s5) result -1 count -1 results [0] area 6 extra 0"},
		{"a large one behind three words", function(four, ints(3), wide, whole), nil, "(r0 r1 r2 r3, s0 s1 s2, s4 s5 s6 s7) result -1 count -1 results [0] area 8 extra 0"},
		{"by turns", function(four, whole, long, whole, long, whole, whole), nil, "(r0 r1 r2 r3, s0, s2 s3, s4, s6 s7, s8) result -1 count -1 results [0] area 10 extra 0"},
		{"extra words behind what is left out", many(function(four, whole, long, whole, whole)), times(1, long), "(r1 r2 r3 s0, s1, s2 s3, s4) result -1 count 0 results [0] area 8 extra 6"},
	})
}

// I2: a copied parameter is one word, even where its type is even.
func TestCopied(t *testing.T) {
	checkLaid(t, []laid{
		{"an even one behind an int", function(whole, huge, whole), nil, "(r0, *r1) result -1 count -1 results [0] area 0 extra 0"},
		{"and a long behind that", function(whole, huge, long, whole), nil, "(r0, *r1, r2 r3) "},
		{"and a long behind one alone", function(huge, long, whole), nil, "(*r0, r2 r3) "},
		{"one register is free", function(ints(3), huge, whole), nil, "(r0 r1 r2, *r3) result -1 count -1 results [0] area 0 extra 0"},
		{"none is", function(ints(4), huge, whole), nil, "(r0 r1 r2 r3, *s0) result -1 count -1 results [0] area 2 extra 0"},
		{"an odd place", function(ints(4), whole, huge, whole), nil, "(r0 r1 r2 r3, s0, *s1) result -1 count -1 results [0] area 2 extra 0"},
		{"an odd place, another one", function(ints(4), whole, ints(5), whole), nil, "(r0 r1 r2 r3, s0, *s1) "},
		{"some of them", function(ints(5), ints(4), ints(12), wide, huge, whole), nil, "(*r0, r1 r2 r3 s0, *s1, s2 s3 s4 s5, *s6) result -1 count -1 results [0] area 8 extra 0"},
	})
}

// I2: as many parameters as there may be, the area as large as it can be among them; Area odd and even ahead of what is added.
func TestMostParameters(t *testing.T) {
	list := func(n int, part, result api.Type) api.Type { return function(append(times(n, part), result)...) }
	checkLaid(t, []laid{
		{"six ints", list(6, whole, whole), nil, "(r0, r1, r2, r3, s0, s1) result -1 count -1 results [0] area 2 extra 0"},
		{"five ints", list(5, whole, whole), nil, "(r0, r1, r2, r3, s0) result -1 count -1 results [0] area 2 extra 0"},
		{"four ints", list(4, whole, whole), nil, "(r0, r1, r2, r3) result -1 count -1 results [0] area 0 extra 0"},
		{"six ints, with an address", list(6, whole, wide), nil, "(r1, r2, r3, s0, s1, s2) result 0 count -1 results [] area 4 extra 0"},
		{"six ints, of any number", many(list(6, whole, long)), nil, "(r1, r2, r3, s0, s1, s2) result -1 count 0 results [0 1] area 4 extra 4"},
		{"six ints, both", many(list(6, whole, huge)), nil, "(r2, r3, s0, s1, s2, s3) result 0 count 1 results [] area 4 extra 4"},
		{"six longs", list(6, long, long), nil, "(r0 r1, r2 r3, s0 s1, s2 s3, s4 s5, s6 s7) result -1 count -1 results [0 1] area 8 extra 0"},
		{"six longs, with an address", list(6, long, huge), nil, "(r2 r3, s0 s1, s2 s3, s4 s5, s6 s7, s8 s9) result 0 count -1 results [] area 10 extra 0"},
		{"six of three words", list(6, ints(3), whole), nil, "(r0 r1 r2, r3 s0 s1, s2 s3 s4, s5 s6 s7, s8 s9 s10, s11 s12 s13) result -1 count -1 results [0] area 14 extra 0"},
		{"six of three words, both", many(list(6, ints(3), ints(3))), times(6, long), "(r2 r3 s0, s1 s2 s3, s4 s5 s6, s7 s8 s9, s10 s11 s12, s13 s14 s15) result 0 count 1 results [] area 28 extra 16"},
		{"six large even ones, both", many(list(6, wide, wide)), times(6, long), "(r2 r3 s0 s1, s2 s3 s4 s5, s6 s7 s8 s9, s10 s11 s12 s13, s14 s15 s16 s17, s18 s19 s20 s21) result 0 count 1 results [] area 34 extra 22"},
		{"six copied ones", list(6, huge, whole), nil, "(*r0, *r1, *r2, *r3, *s0, *s1) result -1 count -1 results [0] area 2 extra 0"},
		{"an int, and long by turns", function(whole, long, whole, long, whole, long, whole), nil, "(r0, r2 r3, s0, s2 s3, s4, s6 s7) result -1 count -1 results [0] area 8 extra 0"},
	})
}
