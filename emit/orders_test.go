package emit_test

import (
	"fmt"
	"math"
	"slices"
	"testing"

	"scarfjoint/api"
	"scarfjoint/word"
)

// firstOther is the first of the registers of amid that are none of its code's.
const firstOther = 20

// amid is main with some code, ahead of which so many other registers get their words, and behind which these are told, over and over: so they find the machine's registers first, and those of the code find what is left. It returns the register 0.
func amid(others int, code ...api.Three) api.Body {
	all := constants(firstOther, others, 9000)
	for _, o := range code {
		if o.Op == api.TJump || o.Op == api.TZero {
			o.N += others
		}
		all = append(all, o)
	}
	for range 9 {
		all = append(all, puts(from(firstOther, others)...)...)
	}
	return body("main", function(whole), firstOther+others, append(all, back(0))...)
}

// amidOut is what the others tell behind the code.
func amidOut(others int, out ...int32) []int32 {
	for range 9 {
		for at := range others {
			out = append(out, int32(9000+at))
		}
	}
	return out
}

// crowds are how many others there are: none, as many as leave a register or two, or none at all.
var crowds = []int{0, 9, 10, 11, 12, 16}

// crowded holds what code tells and returns, with few other registers in use and with many.
func crowded(t *testing.T, code []api.Three, value int32, out ...int32) {
	t.Helper()
	for _, others := range crowds {
		exits(t, []api.Body{amid(others, code...)}, value, amidOut(others, out...)...)
	}
}

var edges = []int{0, 1, -1, 2, -2, 7, -7, 10, 255, 32767, 32768, -32768, -32769, 65535, 65536, -65536, 12345678, 1 << 30, math.MaxInt32, math.MaxInt32 - 1, math.MinInt32, math.MinInt32 + 1}

// Q2: the least units.
func TestLeastUnits(t *testing.T) {
	exits(t, []api.Body{mainOf(back(0))}, 0)
	exits(t, []api.Body{body("main", function(whole), 1, back(0))}, 0)
	exits(t, []api.Body{mainOf(constant(0, 7), put(0), back(0))}, 7, 7)
	exits(t, []api.Body{mainOf(constant(3, -1), jump(2), back(3))}, -1)
	showsText(t, []string{"int main(){return 7;}"}, 7)
}

// Q2: TConst, of numbers at the edges of what an instruction has room for.
func TestConstants(t *testing.T) {
	var code []api.Three
	var out []int32
	for _, n := range edges {
		code = append(code, constant(0, n), put(0))
		out = append(out, int32(n))
	}
	crowded(t, code, out[len(out)-1], out...)
}

// Q2: TCopy, to another register and to the same one.
func TestCopies(t *testing.T) {
	crowded(t, []api.Three{constant(1, 5), duplicate(0, 1), constant(1, 6), put(0), put(1)}, 5, 5, 6)
	crowded(t, []api.Three{constant(0, 5), duplicate(0, 0), put(0)}, 5, 5)
	crowded(t, []api.Three{constant(0, 1), constant(1, 2), duplicate(2, 0), duplicate(0, 1), duplicate(1, 2), put(0), put(1), put(2)}, 2, 2, 1, 1)
	crowded(t, []api.Three{duplicate(0, 1), put(0)}, 0, 0)
}

// operations is code that does an operation on all pairs of numbers, and tells what it told; the registers are those of D0, S0 and S1.
func operations(op, d, a, b int) ([]api.Three, []int32) {
	var code []api.Three
	var out []int32
	for _, x := range edges {
		for _, y := range edges {
			if a == b {
				x = y
			}
			n, ok := word.Op(op, int32(x), int32(y))
			if !ok {
				continue
			}
			code = append(code, constant(a, x), constant(b, y), operation(d, op, a, b), put(d))
			out = append(out, n)
			if d != a && d != b {
				code = append(code, put(a), put(b))
				out = append(out, int32(x), int32(y))
			}
			if a == b {
				break
			}
		}
	}
	return code, out
}

// Q2: TWord, each operation by itself, also with registers that are the same.
func TestOperations(t *testing.T) {
	t.Parallel()
	for op := api.OpAdd; op <= api.OpSame; op++ {
		for _, r := range [][]int{{0, 1, 2}, {0, 0, 1}, {0, 1, 0}, {0, 1, 1}, {0, 0, 0}} {
			code, out := operations(op, r[0], r[1], r[2])
			for _, others := range []int{0, 10, 12} {
				operates(t, others, code, out)
			}
		}
	}
}

// operates holds what code tells, part by part: not all of it has room in one body.
func operates(t *testing.T, others int, code []api.Three, out []int32) {
	t.Helper()
	for part := range slices.Chunk(code, 1200) {
		n := 0
		for _, o := range part {
			if o.Op == api.TPut {
				n++
			}
		}
		w := means(t, []api.Made{made(amid(others, part...))})
		if w.End != api.EndExit || !slices.Equal(w.Out, amidOut(others, out[:n:n]...)) {
			t.Fatalf("%v: %s", code[2], told(w.Stop))
		}
		out = out[n:]
	}
}

// Q2: divisions by zero end the run, behind all that was told; of the least number by -1 there is no such end.
func TestDivisions(t *testing.T) {
	for _, others := range crowds {
		for _, op := range []int{api.OpDiv, api.OpRem} {
			for _, n := range []int{0, 1, -1, math.MinInt32, math.MaxInt32} {
				for _, r := range [][]int{{0, 1, 2}, {1, 1, 2}, {2, 1, 2}, {0, 2, 2}} {
					b := amid(others, constant(1, n), constant(2, 0), put(1), operation(r[0], op, r[1], r[2]), put(1))
					shows(t, []api.Made{made(b)}, api.EndDivided, 0, int32(n))
				}
			}
		}
		least := int32(math.MinInt32)
		exits(t, []api.Body{amid(others, constant(1, math.MinInt32), constant(2, -1), operation(0, api.OpDiv, 1, 2), operation(3, api.OpRem, 1, 2), put(3))}, least, amidOut(others, 0)...)
		// A word that no one asks for is divided, too.
		shows(t, []api.Made{made(amid(others, operation(5, api.OpDiv, 6, 7), put(0)))}, api.EndDivided, 0)
	}
}

// Q2: all registers but the parameters are 0 at first, also where something else lay there.
func TestRegistersAtFirst(t *testing.T) {
	f := body("f", function(whole, whole), 40)
	f.Code = append(puts(from(0, 40)...), constants(0, 40, 500)...)
	f.Code = append(append(f.Code, puts(from(0, 40)...)...), back(39))
	var out []int32
	for _, n := range []int32{71, 72} {
		out = append(append(out, n), make([]int32, 39)...)
		for at := range 40 {
			out = append(out, int32(500+at))
		}
	}
	x := function(whole, whole)
	exits(t, []api.Body{mainOf(constant(0, 71), call(row(0), "f", x, 0), constant(0, 72), call(row(0), "f", x, 0), put(1), back(0)), f}, 539, append(out, 0)...)
	// A register that is 0 on one way alone.
	crowded(t, []api.Three{zero(0, 2), constant(1, 5), put(1), constant(0, 3), put(1)}, 3, 0, 0)
}

// Q2: jumps ahead, back and to themselves, by a word that is 0, and by others.
func TestJumps(t *testing.T) {
	// A loop of five turns, which tells what is left.
	crowded(t, []api.Three{constant(1, 5), constant(2, -1), put(1), operation(1, api.OpAdd, 1, 2), zero(1, 6), jump(2), put(1), constant(0, 8)}, 8, 5, 4, 3, 2, 1, 0)
	crowded(t, []api.Three{jump(2), put(0), jump(4), put(0), constant(0, 3), put(0)}, 3, 3)
	crowded(t, []api.Three{jump(3), constant(0, 9), jump(4), jump(1), put(0)}, 9, 9)
	for _, n := range []int{1, -1, math.MinInt32, 65536, math.MaxInt32} {
		crowded(t, []api.Three{constant(1, n), zero(1, 3), put(1), zero(0, 5), put(1), constant(0, 1)}, 1, int32(n))
	}
	// To the next order, and to itself where the word is none.
	crowded(t, []api.Three{jump(1), zero(0, 2), constant(0, 1), zero(0, 3), put(0)}, 1, 1)
	for _, others := range crowds {
		for _, o := range []api.Three{jump(1), zero(1, 1)} {
			l := []api.Made{made(amid(others, put(0), o))}
			if w := means(t, l); w.End != api.EndFuel || !slices.Equal(w.Out, []int32{0}) {
				t.Error(text(l...), told(w.Stop))
			}
		}
	}
	// Bodies whose first order is led to, and whose last one is a TJump.
	exits(t, []api.Body{mainOf(zero(0, 3), put(0), back(0), constant(0, 1), jump(0))}, 1, 1)
	exits(t, []api.Body{mainOf(jump(3), put(0), back(0), constant(0, 4), jump(1))}, 4, 4)
}

// Q2: several returns, of different registers, one behind the other.
func TestReturns(t *testing.T) {
	for n := range 4 {
		for _, others := range crowds {
			f := amid(others, zero(0, 4), operation(0, api.OpSub, 0, 1), zero(0, 5), jump(6), back(2), back(3), put(0))
			f.Name, f.Type = "f", function(whole, whole, whole, whole, whole)
			m := mainOf(constant(0, n), constant(1, 1), constant(2, 50), constant(3, 60), call(row(4), "f", f.Type, 0, 1, 2, 3), back(4))
			value, out := int32(n-1), amidOut(others, int32(n-1))
			if n < 2 {
				value, out = int32(50+10*n), nil
			}
			exits(t, []api.Body{f, m}, value, out...)
		}
	}
}

// Q2: global variables: both words of a long, ints, static ones, those of other units; what is stored is there for all.
func TestGlobals(t *testing.T) {
	const great = math.MinInt64 + 5
	first := api.Made{
		Globals: []api.Global{{Name: "a", Type: whole, Value: -3}, {Name: "b", Type: long, Value: great}, {Name: "own", Type: whole, Value: 11, Static: true}, {Name: "c", Type: long, Value: -2}},
		Outsides: []api.Outside{
			{Name: "d", Type: whole}, {Name: "e", Type: long}, {Name: "f", Type: function(whole), Fun: true},
		},
	}
	second := api.Made{
		Globals:  []api.Global{{Name: "own", Type: long, Value: 21 + 22<<32, Static: true}, {Name: "d", Type: whole, Value: math.MinInt32}, {Name: "e", Type: long, Value: math.MaxInt64}},
		Outsides: []api.Outside{{Name: "b", Type: long}, {Name: "a", Type: whole}},
	}
	second.Bodies = []api.Body{body("f", function(whole), 3,
		load(0, "own", 0), put(0), load(0, "own", 1), put(0), load(0, "b", 1), put(0), load(0, "a", 0), put(0),
		constant(0, 41), store("own", 1, 0), constant(1, 42), store("b", 0, 1), load(2, "own", 1), store("a", 0, 2), back(2))}
	for _, others := range crowds {
		m := amid(others, load(1, "a", 0), put(1), load(1, "b", 0), put(1), load(1, "b", 1), put(1), load(1, "own", 0), put(1), load(1, "c", 0), put(1),
			load(1, "c", 1), put(1), load(1, "d", 0), put(1), load(1, "e", 0), put(1), load(1, "e", 1), put(1),
			constant(2, 77), store("b", 1, 2), store("own", 0, 2), call(row(0), "f", function(whole)), put(0),
			load(1, "a", 0), put(1), load(1, "b", 0), put(1), load(1, "b", 1), put(1), load(1, "own", 0), put(1))
		first.Bodies = []api.Body{m}
		out := amidOut(others, -3, 5, math.MinInt32, 11, -2, -1, math.MinInt32, -1, math.MaxInt32, 21, 22, 77, -3, 41, 41, 42, 77, 77)
		shows(t, []api.Made{first, second}, api.EndExit, 41, out...)
		shows(t, []api.Made{second, first}, api.EndExit, 41, out...)
	}
}

// busy is main of so many registers, all in use at once: each gets its word, is added to the next one, and is told.
func busy(regs int) (api.Body, []int32, int32) {
	b := body("main", function(whole), regs, constants(0, regs, 300)...)
	var out []int32
	sum := int32(300)
	for at := 1; at < regs; at++ {
		b.Code = append(b.Code, operation(at, api.OpAdd, at-1, at))
		sum += int32(300 + at)
	}
	told := int32(0)
	for at := range regs {
		b.Code = append(b.Code, put(at))
		told += int32(300 + at)
		out = append(out, told)
	}
	b.Code = append(b.Code, back(regs-1))
	return b, out, sum
}

// Q2: bodies of few registers and of many, all of them in use at once.
func TestManyRegisters(t *testing.T) {
	for _, regs := range []int{1, 2, 4, 11, 12, 13, 14, 15, 40, 100, 200, 400} {
		b, out, value := busy(regs)
		w := exits(t, []api.Body{b}, value, out...)
		if frame := w.frames[2]; frame > regs+8 || frame < regs-12 {
			t.Error(fmt.Sprint(regs, " registers: a frame of ", frame))
		}
	}
}
