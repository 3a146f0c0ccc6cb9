package three_test

import (
	"math"
	"slices"
	"testing"

	"scarfjoint/api"
	"scarfjoint/three"
)

func sameShown(a, b api.Shown) bool {
	return a.End == b.End && a.Value == b.Value && a.Steps == b.Steps && slices.Equal(a.Out, b.Out)
}

// shows holds what units show.
func shows(t *testing.T, l []api.Made, fuel int, want api.Shown) {
	t.Helper()
	got, trouble := three.Run(l, fuel)
	if trouble != (api.Trouble{}) || !sameShown(got, want) {
		t.Errorf("%s with fuel %d: %+v, not %+v; %v", text(l...), fuel, got, want, trouble)
	}
}

// ends holds how units end, what they tell and how many steps that takes; and that with less fuel they tell a beginning of that, and end by RunFuel with all of the fuel used.
func ends(t *testing.T, l []api.Made, want api.Shown) {
	t.Helper()
	shows(t, l, want.Steps, want)
	shows(t, l, want.Steps+1, want)
	shows(t, l, api.MaxFuel, want)
	told := 0
	for fuel := range want.Steps {
		got, trouble := three.Run(l, fuel)
		if trouble != (api.Trouble{}) || got.End != api.RunFuel || got.Value != 0 || got.Steps != fuel || len(got.Out) < told || len(got.Out) > told+1 || !slices.Equal(got.Out, want.Out[:len(got.Out)]) {
			t.Fatalf("%s with fuel %d: %+v; %v", text(l...), fuel, got, trouble)
		}
		told = len(got.Out)
	}
}

// exits holds that main, of these orders, with other bodies beside it, returns and tells so.
func exits(t *testing.T, code []api.Three, beside []api.Body, steps int, value int32, out ...int32) {
	t.Helper()
	m := made(append([]api.Body{mainOf(code...)}, beside...)...)
	ends(t, []api.Made{m}, api.Shown{End: api.RunExit, Value: value, Steps: steps, Out: out})
}

// K3: the chapter's example, at each fuel.
func TestExample(t *testing.T) {
	l := []api.Made{made(mainOf(constant(0, 7), put(0), back(0)))}
	shows(t, l, 0, api.Shown{})
	shows(t, l, 1, api.Shown{Steps: 1})
	shows(t, l, 2, api.Shown{Steps: 2, Out: []int32{7}})
	for _, fuel := range []int{3, 4, 99, api.MaxFuel} {
		shows(t, l, fuel, api.Shown{End: api.RunExit, Value: 7, Steps: 3, Out: []int32{7}})
	}
}

// K3: fuel that may not be, ahead of Check's trouble.
func TestFuelThatMayBe(t *testing.T) {
	for fuel, want := range map[int]api.Errno{
		math.MinInt: api.ErrRange, -1 << 32: api.ErrRange, -1: api.ErrRange, 0: api.OK, 1: api.OK, api.MaxFuel - 1: api.OK, api.MaxFuel: api.OK,
		api.MaxFuel + 1: api.ErrRange, 1 << 32: api.ErrRange, math.MaxInt: api.ErrRange,
	} {
		l := [][]api.Made{{made(plain())}, nil, {{}}, {{}, {}, {}, {}, {}}, {made(plain()), made(api.Body{})}, {made(plain()), made(plain())}}
		for _, l := range l {
			trouble := three.Check(l)
			if want != api.OK {
				trouble = api.Trouble{Code: want}
			}
			s, got := three.Run(l, fuel)
			if got != trouble || got.Code != api.OK && !isZero(s) {
				t.Errorf("%s with fuel %d: %v %v, not %v", text(l...), fuel, s, got, trouble)
			}
		}
	}
}

// K3: a run without an end uses all fuel that there is.
func TestEndlessRun(t *testing.T) {
	l := []api.Made{made(mainOf(jump(0)))}
	for _, fuel := range []int{0, 1, 2, 1000, api.MaxFuel - 1, api.MaxFuel} {
		shows(t, l, fuel, api.Shown{Steps: fuel})
	}
	loop := []api.Made{made(mainOf(put(3), jump(0)))}
	shows(t, loop, api.MaxFuel, api.Shown{Steps: api.MaxFuel, Out: make([]int32, api.MaxFuel/2)})
}

// K1: registers are 0 at first; constants, copies, what is told, and how a call returns.
func TestConstantsAndCopies(t *testing.T) {
	exits(t, []api.Three{back(8)}, nil, 1, 0)
	exits(t, []api.Three{put(0), put(8), back(4)}, nil, 3, 0, 0, 0)
	for _, n := range []int{math.MinInt32, math.MinInt32 + 1, -65536, -1, 0, 1, 255, 1 << 16, math.MaxInt32} {
		exits(t, []api.Three{constant(8, n), duplicate(3, 8), put(3), put(8), back(3)}, nil, 5, int32(n), int32(n), int32(n))
	}
	exits(t, []api.Three{constant(0, 5), duplicate(0, 0), duplicate(1, 0), constant(0, 6), put(0), put(1), back(1)}, nil, 7, 5, 6, 5)
	exits(t, []api.Three{constant(0, 5), duplicate(0, 7), back(0)}, nil, 3, 0)
}

// K1: jumps, to each side and to themselves; TZero goes on behind itself, unless the word is 0.
func TestGoingOn(t *testing.T) {
	exits(t, []api.Three{jump(2), put(0), constant(0, 4), back(0)}, nil, 3, 4)
	exits(t, []api.Three{zero(0, 2), put(0), back(0)}, nil, 2, 0)
	for _, n := range []int{math.MinInt32, -1, 1, 2, 256, 65536, math.MaxInt32} {
		exits(t, []api.Three{constant(0, n), zero(0, 3), put(0), back(0)}, nil, 4, int32(n), int32(n))
	}
	// From 3 down to 0: four times zero, three times the rest.
	down := []api.Three{constant(0, 3), constant(1, 1), zero(0, 6), put(0), operation(0, api.OpSub, 0, 1), jump(2), back(1)}
	exits(t, down, nil, 2+4+3*3+1, 1, 3, 2, 1)
	exits(t, []api.Three{jump(3), put(1), back(1), constant(1, 9), jump(1)}, nil, 5, 9, 9)
	shows(t, []api.Made{made(mainOf(zero(0, 0), back(0)))}, 50, api.Shown{Steps: 50})
	// What stands behind a return, or is jumped over, is not done.
	exits(t, []api.Three{back(0), operation(0, api.OpDiv, 0, 0), jump(0)}, nil, 1, 0)
}

// K1: each operation, of two registers in their order.
func TestOperations(t *testing.T) {
	const least = math.MinInt32
	for _, c := range []struct {
		op      int
		a, b, w int
	}{
		{api.OpAdd, 5, -7, -2}, {api.OpAdd, math.MaxInt32, 1, least}, {api.OpSub, 5, 7, -2}, {api.OpSub, least, 1, math.MaxInt32},
		{api.OpMul, -6, 7, -42}, {api.OpMul, 1 << 16, 1 << 16, 0}, {api.OpHigh, -1, -1, -2}, {api.OpHigh, 1 << 16, 1 << 17, 2},
		{api.OpDiv, -7, 2, -3}, {api.OpDiv, least, -1, least}, {api.OpDiv, 2, -7, 0}, {api.OpRem, -7, 2, -1}, {api.OpRem, 7, -2, 1}, {api.OpRem, least, -1, 0},
		{api.OpAnd, 12, 10, 8}, {api.OpOr, 12, 10, 14}, {api.OpXor, 12, 10, 6},
		{api.OpLess, -1, 1, 1}, {api.OpLess, 1, -1, 0}, {api.OpLess, 1, 1, 0}, {api.OpLow, -1, 1, 0}, {api.OpLow, 1, -1, 1}, {api.OpSame, 4, 4, 1}, {api.OpSame, 4, 5, 0},
	} {
		exits(t, []api.Three{constant(3, c.a), constant(4, c.b), operation(5, c.op, 3, 4), put(3), put(4), back(5)}, nil, 6, int32(c.w), int32(c.a), int32(c.b))
		exits(t, []api.Three{constant(3, c.a), constant(4, c.b), operation(3, c.op, 3, 4), back(3)}, nil, 4, int32(c.w))
		exits(t, []api.Three{constant(3, c.a), constant(4, c.b), operation(4, c.op, 3, 4), put(3), back(4)}, nil, 5, int32(c.w), int32(c.a))
	}
	exits(t, []api.Three{constant(3, 9), operation(3, api.OpMul, 3, 3), back(3)}, nil, 3, 81)
}

// K1, K3: a division by 0 ends the run, its step counted, in main and in a call.
func TestDivided(t *testing.T) {
	for _, op := range []int{api.OpDiv, api.OpRem} {
		for _, n := range []int{0, 1, -1, math.MinInt32} {
			division := []api.Three{constant(0, n), put(0), operation(1, op, 0, 2), put(0), back(0)}
			ends(t, []api.Made{made(mainOf(division...))}, api.Shown{End: api.RunDivided, Steps: 3, Out: []int32{int32(n)}})
			called := body("f", function(whole), 3, division...)
			ends(t, []api.Made{made(called, mainOf(put(7), call(row(0), "f", called.Type), put(7), back(0)))}, api.Shown{End: api.RunDivided, Steps: 5, Out: []int32{0, int32(n)}})
		}
		exits(t, []api.Three{constant(1, 1), operation(0, op, 0, 1), back(0)}, nil, 3, 0)
	}
}

// K1: globals of int and of long: what they are at first, word by word, and what they become.
func TestGlobals(t *testing.T) {
	m := made(mainOf(
		load(0, "i", 0), put(0), load(0, "l", 0), put(0), load(0, "l", 1), put(0),
		constant(1, 11), store("l", 1, 1), constant(1, 12), store("i", 0, 1), constant(1, 13), store("k", 0, 1),
		load(0, "i", 0), put(0), load(0, "l", 0), put(0), load(0, "l", 1), put(0), load(0, "k", 0), put(0), load(0, "k", 1), put(0), put(1), back(1)))
	for _, c := range []struct{ i, l, k int64 }{{5, 7, 9}, {-1, -2, -3}, {math.MinInt32, math.MinInt64, math.MaxInt64}, {math.MaxInt32, 1 << 32, 1<<32 - 1}, {0, 1<<40 + 3, -1 << 40}} {
		m.Globals = []api.Global{{Name: "i", Type: whole, Value: c.i}, {Name: "l", Type: long, Value: c.l}, {Name: "k", Type: long, Value: c.k}}
		ends(t, []api.Made{m}, api.Shown{End: api.RunExit, Value: 13, Steps: 24, Out: []int32{int32(c.i), int32(c.l), int32(c.l >> 32), 12, int32(c.l), 11, 13, int32(c.k >> 32), 13}})
	}
}

// K1, K2: globals of two units: one name stands for the unit's own, static or not, or for that of another unit.
func TestGlobalsOfTwoUnits(t *testing.T) {
	void := function(whole)
	first := api.Made{
		Bodies:   []api.Body{mainOf(load(0, "g", 0), put(0), load(0, "h", 1), put(0), constant(0, 21), store("g", 0, 0), constant(0, 22), store("h", 1, 0), call(row(1), "f", void), load(0, "g", 0), put(0), load(0, "h", 1), put(0), back(0))},
		Globals:  []api.Global{{Name: "g", Type: whole, Value: 1, Static: true}},
		Outsides: []api.Outside{{Name: "f", Type: void, Fun: true}, {Name: "h", Type: long}},
	}
	second := api.Made{
		Bodies:  []api.Body{body("f", void, 2, load(0, "g", 0), put(0), load(0, "h", 1), put(0), load(0, "h", 0), put(0), constant(0, 31), store("g", 0, 0), store("h", 0, 0), store("h", 1, 0), back(0))},
		Globals: []api.Global{{Name: "g", Type: whole, Value: 3}, {Name: "h", Type: long, Value: 5<<32 + 4}},
	}
	want := api.Shown{End: api.RunExit, Value: 31, Steps: 25, Out: []int32{1, 5, 3, 22, 4, 21, 31}}
	ends(t, []api.Made{first, second}, want)
	ends(t, []api.Made{second, {}, first}, want)
	// A third unit's own ones lie apart.
	third := api.Made{Globals: []api.Global{{Name: "g", Type: long, Value: 77, Static: true}, {Name: "h", Type: whole, Value: 78, Static: true}}}
	ends(t, []api.Made{third, second, first, third}, want)
}

// K3: what a run leaves in globals is not there in the next one.
func TestRunsAnew(t *testing.T) {
	m := made(mainOf(load(0, "g", 0), put(0), constant(0, 9), store("g", 0, 0), back(0)))
	m.Globals = []api.Global{{Name: "g", Type: whole, Value: 4}}
	for range 3 {
		ends(t, []api.Made{m}, api.Shown{End: api.RunExit, Value: 9, Steps: 5, Out: []int32{4}})
	}
}

// K1: the greatest body that may be.
func TestGreatest(t *testing.T) {
	b := body("main", function(whole), api.MaxRegs)
	for at := range api.MaxCode - 1 {
		b.Code = append(b.Code, constant(api.MaxRegs-1-at, at))
	}
	b.Code = append(b.Code, back(api.MaxRegs-1-5000))
	shows(t, []api.Made{made(b)}, api.MaxFuel, api.Shown{End: api.RunExit, Value: 5000, Steps: api.MaxCode})
	b.Code[0] = jump(api.MaxCode - 1)
	shows(t, []api.Made{made(b)}, api.MaxFuel, api.Shown{End: api.RunExit, Steps: 2})
}
