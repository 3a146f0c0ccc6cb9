package link_test

import (
	"fmt"
	"slices"
	"strconv"
	"testing"

	"scarfjoint/api"
	"scarfjoint/machine"
)

// becomes holds an image, word by word.
func becomes(t *testing.T, why string, l []api.Object, memory int, instructions []uint32, variables ...int32) api.Image {
	t.Helper()
	wellDone(t, why, l, memory)
	image := linked(l, memory).image
	if !slices.Equal(image.Code, instructions) {
		t.Errorf("%s: %08x, not %08x", why, image.Code, instructions)
	}
	if !slices.Equal(image.Data, variables) || image.Memory != memory {
		t.Errorf("%s: %v, %d, not %v, %d", why, image.Data, image.Memory, variables, memory)
	}
	return image
}

// ends holds how an image's run ends, and that it is no other one the next time.
func ends(t *testing.T, why string, image api.Image, end int, value int32, steps int, out ...int32) {
	t.Helper()
	for range 2 {
		s, e := machine.Run(image, api.MaxFuel)
		if e != api.OK || s.End != end || s.Value != value || s.Steps != steps || !slices.Equal(s.Out, out) {
			t.Errorf("%s: %d %+v, not %d %d %d %v", why, e, s, end, value, steps, out)
		}
	}
}

// S2: the chapter's example.
func TestExample(t *testing.T) {
	image := becomes(t, "example", all(objectOf(fun("main", "exit r4"))), 32, []uint32{21<<24 | 2, 25 << 24, 25<<24 | 4<<20})
	ends(t, "example", image, api.EndExit, 0, 2)
}

// S2: one object, with main ahead of others and behind them: functions are called by their addresses, variables found by theirs.
func TestOneObject(t *testing.T) {
	main := fun("main", "mov r5 r14", "call @f", "movi r1 @v+2", "load r1 r1 0", "out r1", "movi r2 @w", "store r0 r2 0", "load r0 r2 0", "jumpr r5")
	f := fun("f", "movi r0 0", "zero r0 @f+3", "exit r0", "movi r0 33", "jumpr r14")
	v, w := variable("v", 10, 11, 12), variable("w", 13)
	image := becomes(t, "main ahead", all(objectOf(main, f, v, w)), 40, words(
		"call 2", "exit r0",
		"mov r5 r14", "call 11", "movi r1 18", "load r1 r1 0", "out r1", "movi r2 19", "store r0 r2 0", "load r0 r2 0", "jumpr r5",
		"movi r0 0", "zero r0 14", "exit r0", "movi r0 33", "jumpr r14",
	), 10, 11, 12, 13)
	ends(t, "main ahead", image, api.EndExit, 33, 15, 12)
	image = becomes(t, "main behind", all(objectOf(w, f, v, main)), 40, words(
		"call 7", "exit r0",
		"movi r0 0", "zero r0 5", "exit r0", "movi r0 33", "jumpr r14",
		"mov r5 r14", "call 2", "movi r1 19", "load r1 r1 0", "out r1", "movi r2 16", "store r0 r2 0", "load r0 r2 0", "jumpr r5",
	), 13, 10, 11, 12)
	ends(t, "main behind", image, api.EndExit, 33, 15, 12)
}

// S2: two objects that speak of one another's functions and variables.
func TestTwoObjects(t *testing.T) {
	one := objectOf(outVariable("b"), fun("main", "mov r5 r14", "movi r1 @b+1", "load r1 r1 0", "out r1", "call @g", "mov r14 r5", "jump @h"), variable("a", 70, 71), outFun("g"), fun("h", "movi r0 5", "jumpr r14"))
	two := objectOf(variable("c", -1), fun("f", "exit r9"), fun("g", "movi r2 @a+1", "load r2 r2 0", "out r2", "movi r3 @b", "load r3 r3 0", "out r3", "jumpr r14"), outVariable("a"), variable("b", 80, 81))
	image := becomes(t, "one ahead of two", all(one, two), 48, words(
		"call 2", "exit r0",
		"mov r5 r14", "movi r1 23", "load r1 r1 0", "out r1", "call 12", "mov r14 r5", "jump 9", "movi r0 5", "jumpr r14",
		"exit r9", "movi r2 20", "load r2 r2 0", "out r2", "movi r3 22", "load r3 r3 0", "out r3", "jumpr r14",
	), 70, 71, -1, 80, 81)
	ends(t, "one ahead of two", image, api.EndExit, 5, 18, 81, 71, 80)
	image = becomes(t, "two ahead of one", all(two, one), 48, words(
		"call 10", "exit r0",
		"exit r9", "movi r2 23", "load r2 r2 0", "out r2", "movi r3 20", "load r3 r3 0", "out r3", "jumpr r14",
		"mov r5 r14", "movi r1 21", "load r1 r1 0", "out r1", "call 3", "mov r14 r5", "jump 17", "movi r0 5", "jumpr r14",
	), -1, 80, 81, 70, 71)
	ends(t, "two ahead of one", image, api.EndExit, 5, 18, 81, 71, 80)
}

// S2: static things beside others of their name: each object speaks of its own one, those that have none of the open one.
func TestStatic(t *testing.T) {
	speaks := func(name string, more ...part) api.Object {
		return objectOf(append(more, fun(name, "mov r6 r14", "call @f", "movi r1 @v", "load r1 r1 0", "out r1", "jumpr r6"))...)
	}
	f := func(n string) part { return fun("f", "movi r0 "+n, "out r0", "jumpr r14") }
	l := all(
		objectOf(fun("main", "mov r5 r14", "call @a", "call @b", "call @c", "movi r0 @main", "jumpr r5"), outFun("a"), outFun("b"), outFun("c")),
		speaks("a", static(f("11")), static(variable("v", 12))),
		speaks("b", outFun("f"), outVariable("v")),
		speaks("c", f("31"), variable("v", 32)),
	)
	image := linked(l, 100).image
	ends(t, "static ahead of the open one", image, api.EndExit, 2, 35, 11, 12, 31, 32, 31, 32)
	l[1], l[3] = l[3], l[1]
	ends(t, "static behind the open one", linked(l, 100).image, api.EndExit, 2, 35, 11, 12, 31, 32, 31, 32)
	// An open function beside a static variable of its name, and the other way round.
	l = all(objectOf(start(), static(variable("f", 5)), fun("x", "movi r1 @f")), objectOf(fun("f", "exit r0"), static(fun("main", "call @main"))), objectOf(outFun("f"), static(fun("x", "call @f"))))
	becomes(t, "kinds that differ", l, 64, words("call 2", "exit r0", "jumpr r14", "movi r1 7", "exit r0", "call 5", "call 4"), 5)
}

// S2: MaxUnits objects, each of which speaks of something of each one.
func TestMostObjects(t *testing.T) {
	var l []api.Object
	for unit := range api.MaxUnits {
		own := strconv.Itoa(unit)
		parts := []part{fun("f"+own, "exit r0", "exit r1"), variable("v"+own, int32(10*unit), int32(10*unit+1))}
		var code []string
		for other := range api.MaxUnits {
			name := strconv.Itoa(other)
			if other != unit {
				parts = append(parts, outVariable("v"+name), outFun("f"+name))
			}
			code = append(code, "call @f"+name, "movi r1 @v"+name+"+1")
		}
		name := "g" + own
		if unit == 2 {
			name = "main"
		}
		l = append(l, objectOf(append(parts, fun(name, code...))...))
	}
	want := words("call 24", "exit r0")
	for range api.MaxUnits {
		want = append(want, words("exit r0", "exit r1", "call 2", "movi r1 43", "call 12", "movi r1 45", "call 22", "movi r1 47", "call 32", "movi r1 49")...)
	}
	becomes(t, "each of each", l, 100, want, 0, 1, 10, 11, 20, 21, 30, 31)
}

// S2: the operations of relocs, with each register and with what is added; what is not a reloc's stays as it was, whatever it is.
func TestRelocs(t *testing.T) {
	for register := range 16 {
		r := "r" + strconv.Itoa(register)
		for _, n := range []int{0, 1, 2, 255, 256, 5999, 6000} {
			more := "+" + strconv.Itoa(n)
			o := objectOf(start(), fun("f", "movi "+r+" @v"+more, "zero "+r+" @f"+more, "jump @g"+more, "call @w"+more, "movi "+r+" @f"+more), outFun("g"), variable("v", 1), outVariable("w"))
			other := objectOf(variable("w", 2), fun("g", "exit r0"))
			at := func(address int) string { return strconv.Itoa(address + n) }
			want := words("call 2", "exit r0", "jumpr r14", "movi "+r+" "+at(9), "zero "+r+" "+at(3), "jump "+at(8), "call "+at(10), "movi "+r+" "+at(3), "exit r0")
			becomes(t, fmt.Sprint(r, more), all(o, other), 100, want, 1, 2)
		}
	}
	// The same instructions without relocs, and words that are none.
	odd := []uint32{word("call 0"), word("movi r1 0"), word("jump 0"), word("zero r3 0"), word("call 9"), 0, 0xffffffff, 0x80000000, 1, word("call 0")}
	o := objectOf(start(), fun("f", "call @main"))
	o.Code = slices.Concat(o.Code, odd)
	o.Symbols[1].Size += len(odd)
	becomes(t, "no relocs", all(o), 64, slices.Concat(words("call 2", "exit r0", "jumpr r14", "call 2"), odd))
}

// S2: objects of no Code, of no Data, of nothing, between others.
func TestEmptyObjects(t *testing.T) {
	uses := objectOf(fun("main", "movi r1 @v", "call @g"), outVariable("v"), outFun("g"))
	code, data := objectOf(fun("g", "exit r1")), objectOf(static(variable("u", 3)), variable("v", 4))
	nothing, speaks := api.Object{}, objectOf(outFun("g"), outVariable("v"))
	forward, backward := words("call 2", "exit r0", "movi r1 6", "call 4", "exit r1"), words("call 3", "exit r0", "exit r1", "movi r1 6", "call 2")
	becomes(t, "main, Code, Data", all(uses, code, data), 64, forward, 3, 4)
	becomes(t, "main, Data, Code", all(uses, data, code), 64, forward, 3, 4)
	becomes(t, "Data, main, Code", all(data, uses, code), 64, forward, 3, 4)
	becomes(t, "Data, Code, main", all(data, code, uses), 64, backward, 3, 4)
	becomes(t, "Code, Data, main", all(code, data, uses), 64, backward, 3, 4)
	for at := range 4 {
		for _, between := range all(nothing, speaks) {
			becomes(t, "something between", slices.Insert(all(uses, data, code), at, between), 64, forward, 3, 4)
		}
	}
	becomes(t, "main alone, beside nothing", all(nothing, nothing, objectOf(start()), nothing), 32, words("call 2", "exit r0", "jumpr r14"))
}

// S3: the ranges of many objects.
func TestRanges(t *testing.T) {
	l := all(
		objectOf(variable("v", 1, 2), framed(fun("a", "exit r0", "exit r0"), 3), outFun("main"), framed(static(fun("b", "exit r0")), api.MaxMemory)),
		objectOf(variable("w", 1)),
		objectOf(framed(fun("main", "exit r0", "exit r0", "exit r0"), 12), static(variable("a", 9))),
		objectOf(outFun("a"), static(fun("main", "exit r1")), framed(fun("b", "exit r0", "exit r0"), 1)),
	)
	want := []api.Range{
		{Name: "a", Unit: 0, From: 2, To: 4, Frame: 3},
		{Name: "b", Unit: 0, From: 4, To: 5, Frame: api.MaxMemory},
		{Name: "main", Unit: 2, From: 5, To: 8, Frame: 12},
		{Name: "main", Unit: 3, From: 8, To: 9},
		{Name: "b", Unit: 3, From: 9, To: 11, Frame: 1},
	}
	wellDone(t, "many", l, 100)
	if got := linked(l, 100).ranges; !slices.Equal(got, want) {
		t.Errorf("%+v, not %+v", got, want)
	}
	if got := linked(l[2:3], 100).ranges; !slices.Equal(got, []api.Range{{Name: "main", From: 2, To: 5, Frame: 12}}) {
		t.Errorf("one: %+v", got)
	}
	// As many functions as there may be in all.
	var parts []part
	for n := range 399 {
		parts = append(parts, framed(static(fun("f"+strconv.Itoa(n), "exit r0", "exit r0")), n))
	}
	o := objectOf(parts...)
	l = all(o, o, objectOf(append(parts, start())...), o)
	wellDone(t, "as many as there may be", l, api.MaxMemory)
	got := linked(l, api.MaxMemory).ranges
	if len(got) != 4*399+1 || got[399*3] != (api.Range{Name: "main", Unit: 2, From: 2 + 2*399*3, To: 3 + 2*399*3}) {
		t.Error(len(got), got[399*3])
	}
	if last := got[4*399]; last != (api.Range{Name: "f398", Unit: 3, From: 1 + 2*399*4, To: 3 + 2*399*4, Frame: 398}) {
		t.Error(last)
	}
}
