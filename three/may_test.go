package three_test

import (
	"math"
	"slices"
	"strings"
	"testing"

	"scarfjoint/api"
	"scarfjoint/three"
)

// sort is a row of the chapter's table once more: an order that is just as it says, and how far its fields may go.
type sort struct {
	o            api.Three
	least, most  int
	named, typed bool
	more         int // registers that S may have beyond those of o
}

// regs is how many registers the bodies have in which orders are tried, and codes how many orders.
const (
	regs  = 40
	codes = 3
)

// pair, triple and wide are structs of two words, of three, and of four (of which one is left out).
var (
	pair   = structure(whole, whole)
	triple = structure(whole, function(whole), whole)
	wide   = structure(whole, long)
)

// sorts are rows of all Ops, of the calls for several types.
func sorts() []sort {
	l := []sort{
		{o: constant(3, 0), least: math.MinInt32, most: math.MaxInt32},
		{o: duplicate(3, 4)},
		{o: operation(3, api.OpAdd, 4, 5), least: api.OpAdd, most: api.OpSame},
		{o: load(3, "g", 0), most: 1, named: true},
		{o: store("g", 0, 3), most: 1, named: true},
		{o: address(3, "f"), named: true},
		{o: jump(0), most: codes - 1},
		{o: zero(3, 0), most: codes - 1},
		{o: put(3)},
		{o: back(3, 4, 5)},
		{o: count(3)},
		{o: extra(3, 4)},
	}
	for _, c := range []struct {
		t    api.Type
		d, s int
	}{
		{function(whole), 1, 0},
		{function(long), 2, 0},
		{function(wide, whole), 4, 1},
		{function(triple, long, wide, pair), 3, 8},
		{function(function(whole), function(long), whole), 1, 2},
		{function(structure(long, long, long, long, long, long), whole, whole, whole, whole, whole, whole), 12, 6},
	} {
		call, callr := call(from(20, c.d), "f", c.t, from(2, c.s)...), callr(from(20, c.d), c.t, from(2, c.s+1)...)
		l = append(l, sort{o: call, named: true, typed: true}, sort{o: callr, typed: true})
		call.Type, callr.Type = many(c.t), many(c.t)
		l = append(l, sort{o: call, named: true, typed: true, more: 2 * api.MaxParams}, sort{o: callr, typed: true, more: 2 * api.MaxParams})
	}
	return l
}

// tried is a body with that order in its midst, in which each may stand that is as the table says.
func tried(o api.Three) api.Body {
	return body("f", many(function(triple, whole, long)), regs, constant(0, 1), o, back(0, 0, 0))
}

// mays asks whether a body with an order may be, which other things of it are no part of.
func mays(t *testing.T, o api.Three, want bool) {
	t.Helper()
	if three.May(tried(o)) != want {
		t.Errorf("%+v: not %v", o, want)
	}
}

// K1: an order of each row, and the same with other numbers of registers.
func TestHowManyRegisters(t *testing.T) {
	seen := map[int]int{}
	for _, s := range sorts() {
		seen[s.o.Op]++
		mays(t, s.o, true)
		for _, n := range []int{len(s.o.D) - 1, len(s.o.D) + 1, len(s.o.D) + 2, 0, 100} {
			if n >= 0 {
				o := s.o
				o.D = from(0, n)
				mays(t, o, n == len(s.o.D))
			}
		}
		for n := range len(s.o.S) + s.more + 3 {
			o := s.o
			o.S = from(0, n)
			mays(t, o, n >= len(s.o.S) && n <= len(s.o.S)+s.more)
		}
		o := s.o
		o.S = slices.Repeat(row(1), 10000)
		mays(t, o, false)
	}
	if len(seen) != api.TExtra {
		t.Error("rows that are not tried:", seen)
	}
}

// K1: each register is from 0 to below Regs, wherever it stands.
func TestWhichRegisters(t *testing.T) {
	for _, s := range sorts() {
		for _, n := range []int{math.MinInt, math.MinInt32, -256, -1, 0, 1, regs - 1, regs, regs + 1, 256, api.MaxRegs - 1, api.MaxRegs, 1 << 32, math.MaxInt} {
			for at := range s.o.D {
				o := s.o
				o.D = slices.Clone(o.D)
				o.D[at] = n
				mays(t, o, n >= 0 && n < regs)
			}
			for at := range s.o.S {
				o := s.o
				o.S = slices.Clone(o.S)
				o.S[at] = n
				mays(t, o, n >= 0 && n < regs)
			}
			if s.more > 0 {
				o := s.o
				o.S = append(slices.Clone(o.S), 5, n)
				mays(t, o, n >= 0 && n < regs)
			}
		}
		o := s.o
		o.S = slices.Repeat(row(7), len(o.S))
		mays(t, o, true)
	}
}

// K1: a body without registers has orders that name none alone.
func TestNoRegisters(t *testing.T) {
	b := body("f", function(whole), 0, jump(0))
	if !three.May(b) {
		t.Error("a jump needs none")
	}
	for _, s := range sorts() {
		b.Code = []api.Three{s.o, jump(0)}
		if want := s.o.Op == api.TJump; three.May(b) != want {
			t.Errorf("%+v: not %v", s.o, want)
		}
	}
}

// K1: N at both ends of what its row says, and beyond them; 0, where the row does not name it.
func TestNumbers(t *testing.T) {
	for _, s := range sorts() {
		for _, n := range []int{math.MinInt, math.MinInt32 - 1, math.MinInt32, -1, 0, 1, 2, 3, 12, 13, 255, 256, math.MaxInt32, math.MaxInt32 + 1, 1 << 32, 1<<32 + 1, math.MaxInt,
			s.least - 1, s.least, s.least + 1, s.most - 1, s.most, s.most + 1} {
			o := s.o
			o.N = n
			mays(t, o, s.least <= n && n <= s.most)
		}
	}
}

// K1: where a jump leads to, in bodies of other lengths.
func TestJumps(t *testing.T) {
	for _, length := range []int{1, 2, 7, api.MaxCode} {
		for n, want := range map[int]bool{-1: false, 0: true, length - 1: true, length: false, length + 1: false} {
			b := body("f", function(whole), 1)
			b.Code = append(slices.Repeat([]api.Three{put(0)}, length-1), jump(n))
			if three.May(b) != want {
				t.Error("jump", length, n, "not", want)
			}
			if length > 1 {
				b.Code = append([]api.Three{zero(0, n)}, b.Code[1:]...)
				b.Code[length-1] = back(0)
				if three.May(b) != want {
					t.Error("zero", length, n, "not", want)
				}
			}
		}
	}
}

// K1: a Name where the row has none; where it has one, K1 asks nothing of it.
func TestNamesOfOrders(t *testing.T) {
	for _, s := range sorts() {
		for _, name := range []string{"", "f", "g", "main", "return", "9", "\x00", strings.Repeat("x", 17)} {
			o := s.o
			o.Name = name
			mays(t, o, s.named || name == "")
		}
	}
}

// odd are types that are not zero, of which the first ones are functions' that may be.
func odd() []api.Type {
	return []api.Type{
		function(whole), many(function(long, whole)),
		whole, long, wide, {Kind: -1}, {Kind: 5}, {Name: "x"}, {Names: []string{""}}, {Parts: []api.Type{{}}}, {Many: true},
		{Kind: api.TFn}, {Kind: api.TFn, Name: "f", Parts: []api.Type{whole}}, {Kind: api.TFn, Names: []string{"a"}, Parts: []api.Type{whole}},
		function(api.Type{}), function(whole, api.Type{Kind: 9}), function(function(function(function(whole)))),
		function(whole, whole, whole, whole, whole, whole, whole, whole), function(structure(long, long, long, long, long, structure(long, whole))),
	}
}

// K1: a Type where the row has none; where it has one, a function's type that may be.
func TestTypesOfOrders(t *testing.T) {
	for _, s := range sorts() {
		for _, other := range odd() {
			o := s.o
			o.Type = other
			if !s.typed || other.Kind != api.TFn {
				mays(t, o, false)
			}
		}
		o := s.o
		o.Type = api.Type{}
		mays(t, o, !s.typed)
		o.Type = api.Type{Names: []string{}, Parts: []api.Type{}}
		mays(t, o, !s.typed)
		o = s.o
		o.D, o.S = append([]int{}, o.D...), append([]int{}, o.S...)
		mays(t, o, true)
	}
	for at, other := range odd()[2:] {
		for d := range 15 {
			for s := range 9 {
				mays(t, call(from(20, d), "f", other, from(0, s)...), false)
				mays(t, callr(from(20, d), other, from(0, s)...), false)
			}
		}
		if t.Failed() {
			t.Fatal(at)
		}
	}
}

// K1: no two of a call's D are alike, wherever they stand.
func TestAlike(t *testing.T) {
	x := function(structure(whole, whole, whole, whole, whole, whole))
	for a := range 6 {
		for b := range 6 {
			d := row(7, 3, 9, 1, 0, 5)
			d[a] = d[b]
			mays(t, call(d, "f", x), a == b)
			mays(t, callr(d, x, 7), a == b)
		}
	}
	mays(t, call(row(5, 5), "f", function(long)), false)
	mays(t, call(row(5, 6), "f", function(long, long), 5, 5), true)
	mays(t, callr(row(5, 6), function(long, long), 6, 6, 6), true)
}

// K1: S of a TReturn are as many as the body's result has words.
func TestReturns(t *testing.T) {
	for _, c := range []struct {
		result api.Type
		words  int
	}{{whole, 1}, {function(long, long), 1}, {long, 2}, {pair, 2}, {triple, 3}, {wide, 4}, {structure(whole, long, whole), 6}, {structure(wide, wide, wide), 12}} {
		for n := range 15 {
			b := body("f", function(c.result, long), 2, back(from(0, n)...))
			b.Code[0].S = slices.Repeat(row(1), n)
			if three.May(b) != (n == c.words) {
				t.Error(c.result, n)
			}
			b.Code = append(b.Code, jump(0))
			if three.May(b) != (n == c.words) {
				t.Error(c.result, n, "in the midst")
			}
		}
	}
}

// K1: TCount and TExtra stand in bodies of any number alone.
func TestAnyNumber(t *testing.T) {
	for _, o := range []api.Three{count(0), extra(0, 0)} {
		for _, x := range []api.Type{function(whole), function(whole, whole), function(whole, many(function(whole)))} {
			b := body("f", x, 1, o, back(0))
			if three.May(b) {
				t.Error(b)
			}
			b.Type.Many = true
			if !three.May(b) {
				t.Error(b)
			}
		}
	}
}

// K1: Ops that are in no row, whatever else they have.
func TestNoSuchOp(t *testing.T) {
	for _, op := range []int{math.MinInt, -256, -1, 0, 15, 16, 17, 255, 256, 256 + api.TJump, 1<<32 + api.TReturn, math.MaxInt} {
		mays(t, api.Three{Op: op}, false)
		for _, s := range sorts() {
			o := s.o
			o.Op = op
			mays(t, o, false)
			b := tried(o)
			b.Code = b.Code[:2]
			if three.May(b) {
				t.Error("at the end:", o)
			}
		}
	}
}

// K1: a body's Name is a name, and it may be static.
func TestNamesOfBodies(t *testing.T) {
	for name, want := range map[string]bool{
		"f": true, "main": true, "a_9": true, strings.Repeat("x", 16): true, "Return": true,
		"": false, "_": false, "9a": false, "a b": false, "a\x00": false, "é": false, strings.Repeat("x", 17): false,
		"int": false, "return": false, "while": false, "count": false, "fn": false,
	} {
		b := body(name, function(whole), 1, back(0))
		if three.May(b) != want || three.May(static(b)) != want {
			t.Errorf("%q: not %v", name, want)
		}
	}
}

// K1: a body's Type is a function's that may be.
func TestTypesOfBodies(t *testing.T) {
	for at, x := range odd() {
		for n := range 3 {
			b := body("f", x, regs, back(from(0, n)...))
			if want := at < 2 && n == at+1; three.May(b) != want {
				t.Error(x, n, "not", want)
			}
		}
	}
	b := body("f", api.Type{}, regs, jump(0))
	if three.May(b) {
		t.Error("of no type")
	}
}

// K1: Regs is from the number of the parameters' words to MaxRegs.
func TestRegs(t *testing.T) {
	for _, c := range []struct {
		t     api.Type
		words int
	}{
		{function(whole), 0}, {many(function(long)), 0}, {function(whole, whole), 1}, {function(whole, long), 2},
		{many(function(long, whole, long)), 3}, {function(whole, wide, triple, function(long)), 8},
		{function(wide, structure(wide, wide, wide), structure(long, wide)), 18},
	} {
		for n, want := range map[int]bool{math.MinInt: false, -1: false, c.words - 1: false, c.words: true, c.words + 1: true, api.MaxRegs - 1: true, api.MaxRegs: true, api.MaxRegs + 1: false, 1 << 32: false, math.MaxInt: false} {
			if b := body("f", c.t, n, jump(0)); three.May(b) != want {
				t.Error(c.t, n, "not", want)
			}
		}
	}
	for n, want := range map[int]bool{api.MaxRegs - 1: true, api.MaxRegs: false} {
		if b := body("f", function(whole), api.MaxRegs, put(n), back(n)); three.May(b) != want {
			t.Error(n, "not", want)
		}
	}
}

// K1: 1 to MaxCode orders.
func TestHowManyOrders(t *testing.T) {
	for n, want := range map[int]bool{0: false, 1: true, 2: true, api.MaxCode - 1: true, api.MaxCode: true, api.MaxCode + 1: false, 1 << 17: false} {
		b := body("f", function(whole), 1)
		b.Code = slices.Repeat([]api.Three{back(0)}, n)
		if three.May(b) != want {
			t.Error(n, "not", want)
		}
	}
}

// K1: the last order is a TJump or TReturn; and one that may not be is seen wherever it stands.
func TestLastOrder(t *testing.T) {
	for _, s := range sorts() {
		b := tried(s.o)
		b.Code = b.Code[:2]
		b.Code[1].N = min(b.Code[1].N, 1)
		if want := s.o.Op == api.TJump || s.o.Op == api.TReturn; three.May(b) != want {
			t.Errorf("%+v: not %v", s.o, want)
		}
	}
	for at := range 50 {
		b := body("f", function(whole), 1)
		b.Code = slices.Repeat([]api.Three{back(0)}, 50)
		b.Code[at].Name = "x"
		if three.May(b) {
			t.Error("not seen:", at)
		}
	}
}

// P1: types without an end have an answer.
func TestEndless(t *testing.T) {
	x := function(whole, whole)
	x.Parts[0] = x
	mays(t, call(row(1), "f", x, 2), false)
	mays(t, callr(row(1), x, 2, 3), false)
	b := body("f", x, 5, back(0))
	o := put(0)
	o.Type.Parts = x.Parts
	mays(t, o, false)
	if three.May(b) || three.Fits(made(b)) || three.Fits(api.Made{Outsides: []api.Outside{{Name: "f", Type: x, Fun: true}}}) {
		t.Error("it is too deep")
	}
}
