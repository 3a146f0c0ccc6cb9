package emit_test

import (
	"slices"
	"strconv"
	"strings"
	"testing"

	"scarfjoint/api"
	"scarfjoint/emit"
	"scarfjoint/three"
	"scarfjoint/types"
)

// grows holds that Make makes objects of units that grow, up to what there is room for, and answers ErrSize of all greater ones; it gives the greatest object.
func grows(t *testing.T, unit func(n int) api.Made, least, most int) api.Object {
	t.Helper()
	fits := func(n int) bool {
		m := unit(n)
		if !three.Fits(m) {
			t.Fatal("does not fit:", n, text(m))
		}
		_, e := emit.Make(m)
		return e == api.OK
	}
	for most-least > 1 {
		if n := (least + most) / 2; fits(n) {
			least = n
		} else {
			most = n
		}
	}
	for n := range 3 {
		if n < least {
			object(t, unit(least-n))
		}
		refuses(t, "too great", unit(most+n), api.ErrSize)
	}
	return object(t, unit(least))
}

// Q1: objects of just MaxCode instructions, and of more: by one body, by many, and by orders of which each is several instructions.
func TestMostCode(t *testing.T) {
	t.Parallel()
	x := function(whole, whole)
	one := func(n int) api.Made {
		return made(body("f", x, 1, append(slices.Repeat([]api.Three{put(0)}, n), back(0))...))
	}
	// As many orders as there may be, each of them an instruction.
	if o := object(t, one(api.MaxCode-1)); len(o.Code) != api.MaxCode {
		t.Error(len(o.Code))
	}
	two := func(n int) api.Made {
		m := one(n)
		m.Bodies = append(m.Bodies, one(3000).Bodies[0])
		m.Bodies[1].Name = "g"
		return m
	}
	if o := grows(t, two, 1, 5990); len(o.Code) != api.MaxCode {
		t.Error(len(o.Code))
	}
	bodies := func(n int) api.Made {
		var m api.Made
		for at := range n {
			m.Bodies = append(m.Bodies, body("f"+strconv.Itoa(at), x, 1, slices.Concat(slices.Repeat([]api.Three{put(0)}, 20), []api.Three{back(0)})...))
		}
		return m
	}
	if o := grows(t, bodies, 1, 390); len(o.Code) > api.MaxCode || len(o.Code) < api.MaxCode-40 {
		t.Error(len(o.Code), len(o.Symbols))
	}
	for _, code := range [][]api.Three{{constant(0, 1<<20)}, {load(0, "v", 0)}, {store("v", 0, 0)}, {call(row(0), "f", x, 0)}, {zero(0, 0)}, {operation(0, api.OpAdd, 0, 0), jump(0)}, {extra(0, 0)}} {
		many := func(n int) api.Made {
			m := made(body("f", x, 1, append(slices.Repeat(code, n), back(0))...), two(1).Bodies[1])
			if code[0].Op == api.TExtra {
				m.Bodies[0].Type.Many = true
			}
			m.Globals = []api.Global{{Name: "v", Type: whole}}
			return m
		}
		if o := grows(t, many, 1, 5999/len(code)); len(o.Code) > api.MaxCode || len(o.Code) < api.MaxCode-40 {
			t.Error(code, len(o.Code))
		}
	}
}

// Q1: images of as many instructions as there may be.
func TestMostCodeOfAnImage(t *testing.T) {
	for _, n := range []int{5990, 5994, 5995, 5996, 5997} {
		m := mainOf(append(append([]api.Three{constant(0, 9)}, slices.Repeat([]api.Three{put(0)}, n)...), back(0))...)
		o := object(t, made(m))
		image, ranges, ok := linked(t, []api.Object{o}, api.MaxMemory)
		if ok != (len(o.Code) <= api.MaxCode-2) {
			t.Error(n, len(o.Code))
		}
		if !ok {
			continue
		}
		if w := watch(t, image, ranges, api.MaxFuel); w.End != api.EndExit || w.Value != 9 || len(w.Out) != n {
			t.Error(n, told(w.Stop))
		}
	}
}

// idle is main with so many registers in use at first, all at once.
func idle(regs int) api.Made {
	return made(body("main", function(whole), regs, append(puts(from(0, regs)...), back(0))...))
}

// Q1: frames of up to 900 words, and of more.
func TestGreatestFrames(t *testing.T) {
	t.Parallel()
	o := grows(t, idle, 400, 1800)
	if frame := o.Symbols[0].Frame; frame != 900 {
		t.Error(frame)
	}
	// What is in such a frame is well kept.
	for _, regs := range []int{400, 700, 900} {
		b := body("main", function(whole), regs)
		b.Code = append(constants(0, regs, 1), puts(from(0, regs)...)...)
		b.Code = append(b.Code, back(regs-1))
		exits(t, []api.Body{b}, int32(regs), numbers(1, regs)...)
	}
	refuses(t, "all registers", idle(2000), api.ErrSize)
	many := made(body("main", function(whole), api.MaxRegs, append(puts(from(0, 5990)...), back(0))...))
	refuses(t, "all registers", many, api.ErrSize)
	// One of several bodies is enough.
	m := idle(1000)
	m.Bodies = append([]api.Body{body("f", function(whole), 1, back(0))}, m.Bodies...)
	refuses(t, "the second body", m, api.ErrSize)
	// Registers that are not in use at once have no words of the frame, however many there are.
	b := body("main", function(whole), api.MaxRegs)
	for at := range 2000 {
		b.Code = append(b.Code, constant(4*at, at), put(4*at))
	}
	b.Code = append(b.Code, back(4))
	if o := object(t, made(b)); o.Symbols[0].Frame > 20 {
		t.Error(o.Symbols[0].Frame)
	}
}

// Q1: bodies of 400 registers have no frame that is too great, whatever they call and are.
func TestFourHundredRegisters(t *testing.T) {
	x := many(function(wide, some(6, wide)...))
	y := many(function(wide, some(6, even)...))
	for _, own := range []api.Type{function(whole), x, y, many(function(wide, wide, even, wide, even, wide, even))} {
		_, result := words(own)
		b := body("f", own, 400, call(from(0, 12), "x", x, from(0, 84)...), call(from(100, 12), "y", y, from(200, 36)...))
		b.Code = append(append(b.Code, puts(from(0, 400)...)...), back(from(0, result)...))
		m := made(b)
		m.Outsides = []api.Outside{{Name: "x", Type: x, Fun: true}, {Name: "y", Type: y, Fun: true}}
		o := object(t, m)
		if frame := o.Symbols[0].Frame; frame < 400 || frame > 600 {
			t.Error(types.Text(own), frame)
		}
	}
}

// Q1, R1: as many symbols as an object may have, and more; signs as long as they may be, and longer.
func TestMostSymbols(t *testing.T) {
	unit := func(n int) api.Made {
		m := made(body("main", function(whole), 1, back(0)))
		for at := range n - 1 {
			name := "v" + strconv.Itoa(at)
			if at%2 == 0 {
				m.Globals = append(m.Globals, api.Global{Name: name, Type: long, Value: int64(at)})
			} else {
				m.Outsides = append(m.Outsides, api.Outside{Name: name, Type: whole})
			}
		}
		return m
	}
	if o := grows(t, unit, 1, 900); len(o.Symbols) != 400 {
		t.Error(len(o.Symbols))
	}
	// A type whose text grows by a byte: by the names of its fields.
	long := func(n int) api.Made {
		part := structure(some(6, function(whole, some(6, long)...))...)
		parts := some(7, part)
		for at := range parts {
			parts[at].Names = slices.Clone(part.Names)
			for i := range parts[at].Names {
				more := min(n, 15)
				n -= more
				parts[at].Names[i] += strings.Repeat("x", more)
			}
		}
		return api.Made{Outsides: []api.Outside{{Name: "f", Type: function(parts[6], parts[:6]...), Fun: true}}}
	}
	if o := grows(t, long, 0, 400); len(o.Symbols[0].Sign) != 2000 {
		t.Error(len(o.Symbols[0].Sign))
	}
}
