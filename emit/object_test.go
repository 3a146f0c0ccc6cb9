package emit_test

import (
	"fmt"
	"math"
	"slices"
	"strings"
	"testing"

	"scarfjoint/api"
	"scarfjoint/code"
	"scarfjoint/emit"
	"scarfjoint/three"
	"scarfjoint/types"
)

// good is a unit that fits, with orders of all kinds, and with what they speak of.
func good() api.Made {
	x := function(ints(3), whole, long)
	f := body("f", many(x), 12,
		constant(3, 7), duplicate(4, 3), operation(5, api.OpSub, 3, 4), load(6, "g", 1), store("i", 0, 6), address(7, "e"),
		call(row(0, 1, 2), "e", x, 3, 4, 5), callr(row(0, 1, 2), x, 7, 3, 4, 5),
		call(row(0, 1, 2), "f", many(x), 3, 4, 5, 6), callr(row(8), many(function(whole)), 7, 3),
		zero(3, 1), put(8), count(9), extra(10, 9), jump(15), back(0, 1, 2))
	return api.Made{
		Bodies:   []api.Body{f, static(body("h", function(whole), 2, load(1, "o", 0), back(1)))},
		Globals:  []api.Global{{Name: "g", Type: long, Value: -1 << 63}, {Name: "i", Type: whole, Value: -5, Static: true}},
		Outsides: []api.Outside{{Name: "e", Type: x, Fun: true}, {Name: "o", Type: whole}, {Name: "u", Type: long}},
	}
}

// Q1: a unit's symbols, in order, each with its name, kind, Static and Sign; its data.
func TestObject(t *testing.T) {
	o := object(t, good())
	var l []string
	for _, s := range o.Symbols {
		l = append(l, fmt.Sprint(s.Name, " ", s.Kind, s.Static, " ", s.Sign))
	}
	want := []string{
		"f 1 false fn(int,long,...)struct s{int a;int b;int c;}", "h 1 true fn()int", "g 2 false long", "i 2 true int",
		"e 3 false fn(int,long)struct s{int a;int b;int c;}", "o 4 false int", "u 4 false long",
	}
	if !slices.Equal(l, want) {
		t.Errorf("%q", l)
	}
	if !slices.Equal(o.Data, []int32{0, math.MinInt32, -5}) || o.Symbols[2].At != 0 || o.Symbols[2].Size != 2 || o.Symbols[3].At != 2 || o.Symbols[3].Size != 1 {
		t.Error(o.Data, o.Symbols)
	}
	f, h := o.Symbols[0], o.Symbols[1]
	if f.At != 0 || h.At != f.Size || f.Size+h.Size != len(o.Code) || f.Frame < 1 || h.Frame > f.Frame {
		t.Error(o.Symbols)
	}
}

// Q1: units without bodies, without globals, without outsides, and without anything.
func TestUnitsWithoutMuch(t *testing.T) {
	for n := range 8 {
		m := good()
		if n&1 == 0 {
			m.Bodies = nil
		}
		if n&2 == 0 {
			m.Globals = nil
		}
		if n&4 == 0 {
			m.Outsides = nil
		}
		if n&1 == 1 && n != 7 {
			m.Bodies = []api.Body{body("k", function(whole), 1, back(0))}
		}
		o := object(t, m)
		if len(o.Symbols) != len(m.Bodies)+len(m.Globals)+len(m.Outsides) || n&1 == 0 && len(o.Code)+len(o.Relocs) > 0 || n&2 == 0 && len(o.Data) > 0 {
			t.Error(n, o)
		}
	}
	o, e := emit.Make(api.Made{})
	if e != api.OK || len(o.Code)+len(o.Data)+len(o.Symbols)+len(o.Relocs) > 0 {
		t.Error(o, e)
	}
}

// Q1: the words of globals: of a long the lower one ahead; the least and the greatest numbers.
func TestData(t *testing.T) {
	var m api.Made
	var want []int32
	for at, n := range []int64{0, 1, -1, math.MaxInt32, math.MinInt32, 1 << 31, -1<<31 - 1, 1<<32 - 1, 1 << 32, -1 << 32, math.MaxInt64, math.MinInt64, 0x0123456789abcdef} {
		name := string(rune('a' + at))
		m.Globals = append(m.Globals, api.Global{Name: name, Type: long, Value: n, Static: at%2 == 0})
		want = append(want, int32(uint64(n)), int32(uint64(n)>>32))
		if int64(int32(n)) == n {
			m.Globals = append(m.Globals, api.Global{Name: name + "i", Type: whole, Value: n, Static: at%3 == 0})
			want = append(want, int32(n))
		}
	}
	o := object(t, m)
	if !slices.Equal(o.Data, want) {
		t.Error(o.Data, want)
	}
	at := 0
	for n, s := range o.Symbols {
		if s.At != at || s.Size != types.Words(m.Globals[n].Type) || s.Kind != api.SymData || s.Frame != 0 {
			t.Error(s)
		}
		at += s.Size
	}
}

// Q1: what relocs speak of: the function that an instruction stands in, and a place of it, or what the unit's orders speak of.
func TestRelocs(t *testing.T) {
	o := object(t, good())
	spoken := map[int]int{}
	for _, r := range o.Relocs {
		i, _ := code.Decode(o.Code[r.At])
		s := o.Symbols[r.Symbol]
		spoken[r.Symbol]++
		switch s.Kind {
		case api.SymFun:
			within := s.At <= r.At && r.At < s.At+s.Size
			if (i.Op == api.IJump || i.Op == api.IZero) && (!within || r.Add >= s.Size) || i.Op == api.ICall && r.Add != 0 {
				t.Error(r, i, s)
			}
		case api.SymData, api.SymOutData:
			if i.Op != api.IMovi || r.Add > 1 || s.Sign == "int" && r.Add > 0 {
				t.Error(r, i, s)
			}
		case api.SymOutFun:
			if r.Add != 0 || i.Op != api.IMovi && i.Op != api.ICall && i.Op != api.IJump {
				t.Error(r, i, s)
			}
		}
	}
	for at, s := range o.Symbols {
		if (spoken[at] == 0) != (s.Name == "u" || s.Name == "h") {
			t.Error(s, spoken)
		}
	}
}

// P2: an error, and nothing else.
func refuses(t *testing.T, what string, m api.Made, want api.Errno) {
	t.Helper()
	o, e := emit.Make(m)
	if e != want || len(o.Code)+len(o.Data)+len(o.Symbols)+len(o.Relocs) > 0 {
		t.Errorf("%s: %s\n%d %s", what, text(m), e, told(o))
	}
}

// spoilt is the good unit of which one thing was changed.
func spoilt(change func(m *api.Made)) api.Made {
	m := copied(good())
	change(&m)
	return m
}

// misfits holds that a unit does not fit, as chapter 11 has it, and that Make says so.
func misfits(t *testing.T, what string, change func(m *api.Made)) {
	t.Helper()
	m := spoilt(change)
	if three.Fits(m) {
		t.Errorf("%s: it fits %s", what, text(m))
	}
	refuses(t, what, m, api.ErrForm)
}

// Q1, K2: globals and outsides that are none, and names that are given twice.
func TestWrongNames(t *testing.T) {
	for _, name := range []string{"", "9", "_", "a b", "return", "count", "int", "\x00", "é", strings.Repeat("x", 17)} {
		misfits(t, "body", func(m *api.Made) { m.Bodies[1].Name = name })
		misfits(t, "global", func(m *api.Made) { m.Globals[0].Name = name })
		misfits(t, "outside", func(m *api.Made) { m.Outsides[2].Name = name })
		misfits(t, "outside", func(m *api.Made) { m.Outsides[0].Name = name })
	}
	for _, name := range []string{"f", "h", "g", "i", "e", "o"} {
		misfits(t, "twice", func(m *api.Made) {
			m.Bodies = append(m.Bodies, body(name, function(whole), 1, back(0)))
		})
		misfits(t, "twice", func(m *api.Made) { m.Globals = append(m.Globals, api.Global{Name: name, Type: whole}) })
		misfits(t, "twice", func(m *api.Made) { m.Outsides[2].Name = name })
	}
	for _, x := range []api.Type{{}, ints(1), even, function(whole), {Kind: 5}, {Kind: api.TInt, Name: "a"}, {Kind: api.TLong, Many: true}} {
		misfits(t, "type", func(m *api.Made) { m.Globals[0].Type = x })
		misfits(t, "type", func(m *api.Made) { m.Outsides[2].Type = x })
	}
	for _, x := range []api.Type{{}, whole, long, ints(1), {Kind: api.TFn}, function(api.Type{}), function(function(function(function(ints(3)))))} {
		misfits(t, "type", func(m *api.Made) { m.Outsides[0].Type = x })
		misfits(t, "type", func(m *api.Made) { m.Bodies[1].Type = x })
	}
	for _, n := range []int64{1 << 31, -1<<31 - 1, math.MaxInt64, math.MinInt64} {
		misfits(t, "number", func(m *api.Made) { m.Globals[1].Value = n })
	}
	misfits(t, "function", func(m *api.Made) { m.Outsides[0].Fun = false })
	misfits(t, "function", func(m *api.Made) { m.Outsides[2].Fun = true })
}

// Q1, K1: bodies that may not be.
func TestWrongBodies(t *testing.T) {
	change := func(what string, with func(b *api.Body)) {
		t.Helper()
		misfits(t, what, func(m *api.Made) { with(&m.Bodies[0]) })
	}
	for _, n := range []int{math.MinInt, -1, 0, 2, 10, api.MaxRegs + 1, 1 << 32, math.MaxInt} {
		change("registers", func(b *api.Body) { b.Regs = n })
	}
	change("no orders", func(b *api.Body) { b.Code = nil })
	change("too many orders", func(b *api.Body) { b.Code = slices.Repeat([]api.Three{back(0, 1, 2)}, api.MaxCode+1) })
	change("not of any number", func(b *api.Body) { b.Type.Many = false })
	for at := range good().Bodies[0].Code {
		order := func(what string, with func(o *api.Three)) {
			t.Helper()
			change(what, func(b *api.Body) { with(&b.Code[at]) })
		}
		o := good().Bodies[0].Code[at]
		if o.Op != api.TJump && o.Op != api.TReturn {
			change("last order", func(b *api.Body) { b.Code = b.Code[:at+1] })
		}
		for _, op := range []int{math.MinInt, -1, 0, 15, 256 + o.Op, math.MaxInt} {
			order("op", func(o *api.Three) { o.Op = op })
		}
		order("more in D", func(o *api.Three) { o.D = append(o.D, 11) })
		order("more in S", func(o *api.Three) { o.S = append(o.S, slices.Repeat(row(1), 13)...) })
		for _, register := range []int{math.MinInt, -1, 12, math.MaxInt} {
			for i := range o.D {
				order("register", func(o *api.Three) { o.D[i] = register })
			}
			for i := range o.S {
				order("register", func(o *api.Three) { o.S[i] = register })
			}
		}
		for _, n := range []int{math.MinInt, math.MinInt32 - 1, math.MaxInt32 + 1, math.MaxInt} {
			order("number", func(o *api.Three) { o.N = n })
		}
		if o.Name == "" {
			order("name", func(o *api.Three) { o.Name = "f" })
		}
		if o.Type.Kind == 0 {
			order("type", func(o *api.Three) { o.Type = function(whole) })
		} else {
			order("type", func(o *api.Three) { o.Type = api.Type{} })
			order("type", func(o *api.Three) { o.Type.Parts[0] = ints(6) })
		}
	}
}

// Q1, K2: orders that speak of what their unit does not give, or of something else than that is.
func TestWrongOrders(t *testing.T) {
	change := func(what string, op int, with func(o *api.Three)) {
		t.Helper()
		misfits(t, what, func(m *api.Made) {
			l := m.Bodies[0].Code
			with(&l[slices.IndexFunc(l, func(o api.Three) bool { return o.Op == op })])
		})
	}
	for _, name := range []string{"", "x", "G", "g ", "int"} {
		for _, op := range []int{api.TLoad, api.TStore, api.TAddr, api.TCall} {
			change("name", op, func(o *api.Three) { o.Name = name })
		}
	}
	for _, name := range []string{"f", "h", "e", "i"} {
		change("no long", api.TLoad, func(o *api.Three) { o.Name = name })
	}
	for _, name := range []string{"f", "h", "e"} {
		change("no variable", api.TStore, func(o *api.Three) { o.Name = name })
	}
	change("no such word", api.TStore, func(o *api.Three) { o.N = 1 })
	for _, name := range []string{"g", "i", "o", "u"} {
		change("no function", api.TAddr, func(o *api.Three) { o.Name = name })
		change("no function", api.TCall, func(o *api.Three) { o.Name = name })
	}
	change("another type", api.TCall, func(o *api.Three) { o.Name = "f" })
	change("another type", api.TCall, func(o *api.Three) { o.Type.Parts[2].Name = "t" })
	change("another type", api.TCall, func(o *api.Three) { o.Type.Many = true })
}
