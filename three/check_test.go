package three_test

import (
	"slices"
	"testing"

	"scarfjoint/api"
	"scarfjoint/three"
)

// plain is a body main that does nothing.
func plain() api.Body {
	return mainOf(back(0))
}

// troubles holds that Check and Run tell just this trouble of units.
func troubles(t *testing.T, l []api.Made, want api.Trouble) {
	t.Helper()
	if got := three.Check(l); got != want {
		t.Errorf("%s: %v, not %v", text(l...), got, want)
	}
	s, got := three.Run(l, 100)
	if got != want {
		t.Errorf("%s: a run's %v, not %v", text(l...), got, want)
	}
	if got.Code != api.OK && !isZero(s) {
		t.Errorf("%s: %v beside a trouble", text(l...), s)
	}
}

func isZero(s api.Shown) bool {
	return s.End == 0 && s.Value == 0 && s.Steps == 0 && len(s.Out) == 0
}

// fits holds whether a unit fits by itself.
func fits(t *testing.T, m api.Made, want bool) {
	t.Helper()
	if three.Fits(m) != want {
		t.Errorf("%s: not %v", text(m), want)
	}
}

// K2: how many units there may be.
func TestHowManyUnits(t *testing.T) {
	none := api.Trouble{Code: api.ErrSize}
	troubles(t, nil, none)
	troubles(t, []api.Made{}, none)
	l := []api.Made{made(plain())}
	for range api.MaxUnits {
		troubles(t, l, api.Trouble{})
		l = append(l, api.Made{})
	}
	troubles(t, l, none)
	troubles(t, slices.Repeat([]api.Made{{}}, 1000), none)
	// Ahead of all that units may have.
	bad := made(api.Body{})
	troubles(t, []api.Made{bad, bad, bad, bad, bad}, none)
}

// K2: four units of which nothing is wrong, and which fit.
func TestNothingWrong(t *testing.T) {
	troubles(t, base(), api.Trouble{})
	for _, m := range base() {
		fits(t, m, true)
	}
	fits(t, api.Made{}, true)
}

// K2, K3: each thing that is wrong, alone, in each unit; and whether each unit fits by itself.
func TestWrongAlone(t *testing.T) {
	for _, s := range slips() {
		for unit := s.first(); unit < api.MaxUnits; unit++ {
			l := base()
			spot := s.put(l, unit, "x")
			troubles(t, l, spot.trouble(l))
			for at, m := range l {
				fits(t, m, at != unit || s.when > inOrders)
			}
			if t.Failed() {
				t.Fatal(s.name, unit)
			}
		}
	}
}

// K2: two things at once, in one unit and in two: the sort that comes first is told; of one sort that of the unit ahead, and there that of the place ahead.
func TestWrongAtOnce(t *testing.T) {
	for _, a := range slips() {
		for _, b := range slips() {
			for _, units := range [][2]int{{1, 1}, {1, 3}, {3, 1}, {2, 3}} {
				l := base()
				x := a.put(l, units[0], "x")
				y := b.put(l, units[1], "y")
				want := x.trouble(l)
				if y.ahead(x, l) {
					want = y.trouble(l)
				}
				if got := three.Check(l); got != want {
					t.Fatalf("%s and %s of %v: %v, not %v", a.name, b.name, units, got, want)
				}
			}
		}
	}
}

// K2: more than two things of one sort at once.
func TestWrongOften(t *testing.T) {
	for _, s := range slips() {
		l := base()
		s.put(l, 3, "y")
		s.put(l, 3, "z")
		x := s.put(l, 2, "x")
		troubles(t, l, x.trouble(l))
	}
}

// together is units, with their trouble.
type together struct {
	l    []api.Made
	want api.Trouble
}

func troubleAll(t *testing.T, rows []together) {
	t.Helper()
	for at, r := range rows {
		troubles(t, r.l, r.want)
		if t.Failed() {
			t.Fatal(at)
		}
	}
}

// f and g are a function and a variable that are asked for in what follows, and their outsides.
func f() api.Body     { return body("f", function(whole), 1, back(0)) }
func g() api.Global   { return api.Global{Name: "g", Type: whole} }
func fo() api.Outside { return api.Outside{Name: "f", Type: function(whole), Fun: true} }
func g2() api.Outside { return api.Outside{Name: "g", Type: whole} }

// K2, H1: the same name in two units: one of them static, or both, or an outside of it; bodies and globals are counted one behind the other.
func TestNamesOfTwoUnits(t *testing.T) {
	hidden := g()
	hidden.Static = true
	unit := func(globals []api.Global, bodies ...api.Body) api.Made {
		return api.Made{Bodies: bodies, Globals: globals}
	}
	mf := body("g", function(whole), 1, back(0))
	troubleAll(t, []together{
		{[]api.Made{made(plain(), f()), made(f())}, api.Trouble{Unit: 1, Code: api.ErrTwice}},
		{[]api.Made{made(plain(), f()), made(static(f()))}, api.Trouble{}},
		{[]api.Made{made(plain(), static(f())), made(f())}, api.Trouble{}},
		{[]api.Made{made(plain(), static(f())), made(static(f()))}, api.Trouble{}},
		{[]api.Made{made(plain(), static(f())), made(f()), made(static(f())), made(plain(), f())}, api.Trouble{Unit: 3, Code: api.ErrTwice}},
		{[]api.Made{made(plain(), static(f())), made(f()), made(static(f())), made(static(plain()), f())}, api.Trouble{Unit: 3, Code: api.ErrTwice, At: 1}},
		{[]api.Made{unit([]api.Global{g()}, plain()), unit([]api.Global{g()})}, api.Trouble{Unit: 1, Code: api.ErrTwice}},
		{[]api.Made{unit([]api.Global{g()}, plain()), unit([]api.Global{g()}, f())}, api.Trouble{Unit: 1, Code: api.ErrTwice, At: 1}},
		{[]api.Made{unit([]api.Global{g()}, plain()), unit([]api.Global{{Name: "h", Type: long}, g()}, static(f()), static(plain()))}, api.Trouble{Unit: 1, Code: api.ErrTwice, At: 3}},
		{[]api.Made{unit([]api.Global{hidden}, plain()), unit([]api.Global{g()})}, api.Trouble{}},
		{[]api.Made{unit([]api.Global{g()}, plain()), unit([]api.Global{hidden}), unit([]api.Global{hidden})}, api.Trouble{}},
		{[]api.Made{unit([]api.Global{g()}, plain()), unit(nil, f(), mf)}, api.Trouble{Unit: 1, Code: api.ErrTwice, At: 1}},
		{[]api.Made{unit(nil, plain(), mf), unit([]api.Global{g()}, f())}, api.Trouble{Unit: 1, Code: api.ErrTwice, At: 1}},
		{[]api.Made{unit([]api.Global{g()}, plain(), f()), unit([]api.Global{g()}, f())}, api.Trouble{Unit: 1, Code: api.ErrTwice}},
	})
}

// K2, H1: what stands elsewhere, ahead or behind, and what of it is static.
func TestOutsides(t *testing.T) {
	asks := func(l ...api.Outside) api.Made { return api.Made{Outsides: l} }
	has := api.Made{Bodies: []api.Body{plain(), f()}, Globals: []api.Global{g()}}
	hides := api.Made{Bodies: []api.Body{plain(), static(f())}, Globals: []api.Global{{Name: "g", Type: whole, Static: true}}}
	lone := api.Made{Bodies: []api.Body{f()}, Globals: []api.Global{g()}}
	ff, gg := fo(), g2()
	ff.Type, gg.Type = function(long), long
	troubleAll(t, []together{
		{[]api.Made{has, asks(fo(), g2())}, api.Trouble{}},
		{[]api.Made{asks(fo(), g2()), asks(g2(), fo()), has}, api.Trouble{}},
		{[]api.Made{asks(g2()), has, asks(fo()), asks(g2(), fo())}, api.Trouble{}},
		{[]api.Made{hides, asks(g2(), fo())}, api.Trouble{Unit: 1, Code: api.ErrName}},
		{[]api.Made{hides, asks(fo()), lone, asks(g2(), fo())}, api.Trouble{}},
		{[]api.Made{asks(fo()), hides, asks(g2())}, api.Trouble{Code: api.ErrName}},
		{[]api.Made{asks(fo(), gg), has}, api.Trouble{Code: api.ErrKind, At: 1}},
		{[]api.Made{asks(g2(), ff), has}, api.Trouble{Code: api.ErrKind, At: 1}},
		{[]api.Made{has, asks(g2()), asks(api.Outside{Name: "main", Type: function(whole), Fun: true}, api.Outside{Name: "h", Type: long})}, api.Trouble{Unit: 2, Code: api.ErrName, At: 1}},
		{[]api.Made{has, asks(api.Outside{Name: "main", Type: whole})}, api.Trouble{Unit: 1, Code: api.ErrKind}},
		{[]api.Made{has, asks(api.Outside{Name: "g", Type: function(whole), Fun: true})}, api.Trouble{Unit: 1, Code: api.ErrKind}},
		{[]api.Made{has, asks(api.Outside{Name: "f", Type: whole})}, api.Trouble{Unit: 1, Code: api.ErrKind}},
		// What two units ask for, and none has, is not given by their asking.
		{[]api.Made{made(plain()), asks(fo()), asks(fo())}, api.Trouble{Unit: 1, Code: api.ErrName}},
	})
}

// K2, D3: structs are of the same type if their names and fields are.
func TestStructsOfTwoUnits(t *testing.T) {
	x := body("f", function(wide), 4, back(0, 1, 2, 3))
	same := structure(whole, long)
	names, fields, other := same, same, structure(long, whole)
	names.Name = "r"
	fields.Names = []string{"b", "a"}
	for _, c := range []struct {
		t    api.Type
		want api.Trouble
	}{{same, api.Trouble{}}, {names, api.Trouble{Unit: 1, Code: api.ErrKind}}, {fields, api.Trouble{Unit: 1, Code: api.ErrKind}}, {other, api.Trouble{Unit: 1, Code: api.ErrKind}}} {
		out := api.Outside{Name: "f", Type: function(c.t), Fun: true}
		speaker := body("k", function(whole), 4, call(from(0, 4), "f", function(c.t)), back(0))
		troubles(t, []api.Made{made(plain(), x), {Bodies: []api.Body{speaker}, Outsides: []api.Outside{out}}}, c.want)
		want := c.want
		if want.Code != api.OK {
			want = api.Trouble{Code: api.ErrName, At: 1} // within a unit it is the call that is of another type
		}
		troubles(t, []api.Made{made(x, speaker, plain())}, want)
		fits(t, made(x, speaker), want.Code == api.OK)
	}
}

// K2, H1: main, of which trouble has no place.
func TestMain(t *testing.T) {
	name, kind := api.Trouble{Code: api.ErrName}, api.Trouble{Code: api.ErrKind}
	of := func(x api.Type, n int) api.Body {
		return body("main", x, 20, back(from(0, n)...))
	}
	variable := api.Made{Globals: []api.Global{{Name: "main", Type: whole}}}
	hidden := api.Made{Globals: []api.Global{{Name: "main", Type: long, Static: true}}}
	asked := api.Outside{Name: "main", Type: function(whole), Fun: true}
	troubleAll(t, []together{
		{[]api.Made{{}, {}, {}, made(plain())}, api.Trouble{}},
		{[]api.Made{made(static(plain())), made(plain()), hidden}, api.Trouble{}},
		{[]api.Made{made(static(of(function(long), 2))), made(plain()), {Outsides: []api.Outside{asked}}}, api.Trouble{}},
		{[]api.Made{{}}, name},
		{[]api.Made{made(f()), {}}, name},
		{[]api.Made{{}, made(static(plain()))}, name},
		{[]api.Made{{}, variable}, name},
		{[]api.Made{{}, variable, made(static(plain()))}, name},
		{[]api.Made{hidden, {}}, name},
		{[]api.Made{{}, made(body("Main", function(whole), 1, back(0)))}, name},
		{[]api.Made{{}, made(of(function(long), 2))}, kind},
		{[]api.Made{{}, made(of(function(whole, whole), 1))}, kind},
		{[]api.Made{{}, made(of(many(function(whole)), 1))}, kind},
		{[]api.Made{{}, made(of(function(structure(whole)), 1))}, kind},
		{[]api.Made{{}, made(of(function(function(whole)), 1))}, kind},
		{[]api.Made{made(static(plain())), made(of(function(long), 2)), hidden}, kind},
		{[]api.Made{{Outsides: []api.Outside{asked}}, {}}, api.Trouble{Code: api.ErrName}},
		{[]api.Made{{}, {Outsides: []api.Outside{asked}}, made(of(function(long), 2))}, api.Trouble{Unit: 1, Code: api.ErrKind}},
	})
}

// K2: the names of two units are their own: what one gives, another one has to give as an outside.
func TestNamesOfAnotherUnit(t *testing.T) {
	speaks := func(o api.Three) api.Made { return made(body("k", function(whole), 2, o, back(0))) }
	has := api.Made{Bodies: []api.Body{plain(), f()}, Globals: []api.Global{g()}}
	for _, o := range []api.Three{call(row(0), "f", function(whole)), address(0, "f"), load(0, "g", 0), store("g", 0, 0)} {
		m := speaks(o)
		troubles(t, []api.Made{has, m}, api.Trouble{Unit: 1, Code: api.ErrName})
		m.Bodies = append([]api.Body{static(f()), static(plain())}, m.Bodies...)
		m.Bodies[0].Name = "f0"
		troubles(t, []api.Made{has, m}, api.Trouble{Unit: 1, Code: api.ErrName, At: 2})
		fits(t, m, false)
		m.Outsides = []api.Outside{fo(), g2()}
		troubles(t, []api.Made{has, m}, api.Trouble{})
		fits(t, m, true)
	}
}
