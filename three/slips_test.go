package three_test

import (
	"math"
	"strings"

	"scarfjoint/api"
)

// base is four units of which nothing is wrong: each has a function, a static one, an int, a long, a static int, and outsides of the next unit; the first one has main, and what slips speak of.
func base() []api.Made {
	var l []api.Made
	for at := range api.MaxUnits {
		own, next := string(rune('a'+at)), string(rune('a'+(at+1)%api.MaxUnits))
		l = append(l, api.Made{
			Bodies: []api.Body{
				body("f"+own, function(long, whole), 3, load(0, "g"+own, 0), load(1, "h"+own, 1), store("g"+next, 0, 1), back(0, 1)),
				static(body("own", function(whole), 3, address(0, "f"+own), call(row(1, 2), "f"+next, function(long, whole), 0), back(1))),
			},
			Globals:  []api.Global{{Name: "g" + own, Type: whole, Value: math.MinInt32}, {Name: "h" + own, Type: long, Value: 1 << 40}, {Name: "z", Type: whole, Static: true, Value: math.MaxInt32}},
			Outsides: []api.Outside{{Name: "f" + next, Type: function(long, whole), Fun: true}, {Name: "g" + next, Type: whole}, {Name: "h" + next, Type: long}},
		})
	}
	l[0].Bodies = append(l[0].Bodies, plain())
	for _, tag := range []string{"x", "y", "z"} {
		l[0].Bodies = append(l[0].Bodies, body("F"+tag, function(whole), 1, back(0)))
		l[0].Globals = append(l[0].Globals, api.Global{Name: "G" + tag, Type: whole})
	}
	return l
}

// The sorts of trouble, in the order in which they are told.
const (
	inForm = iota
	inOrders
	inNames
	inOutsides
	inMain
)

// slip is something that is wrong: with a unit, by something more that stands behind all else of the unit, or with main. Names end with a tag, so that two slips have nothing to do with one another.
type slip struct {
	name string
	add  func(tag string) (bodies []api.Body, globals []api.Global, outsides []api.Outside)
	when int
	code api.Errno
	main api.Body // of a slip with main what that becomes
}

// first is the first unit that a slip may be put in: the first unit of all has what others are held against.
func (s slip) first() int {
	if s.when == inNames || s.when == inOutsides {
		return 1
	}
	return 0
}

// spot is where a slip was put.
type spot struct {
	slip
	unit                    int
	body, global, outside   int
	withBodies, withGlobals bool
}

// put puts a slip into a unit, and tells where it is.
func (s slip) put(l []api.Made, unit int, tag string) spot {
	if s.when == inMain {
		l[0].Bodies[2] = s.main
		return spot{slip: s}
	}
	m := &l[unit]
	b, g, o := s.add(tag)
	x := spot{slip: s, unit: unit, body: len(m.Bodies), global: len(m.Globals), outside: len(m.Outsides), withBodies: len(b) > 0, withGlobals: len(g) > 0}
	m.Bodies = append(m.Bodies, b...)
	m.Globals = append(m.Globals, g...)
	m.Outsides = append(m.Outsides, o...)
	return x
}

// trouble is what is told of a slip, once all slips are put: a global's place hangs on how many bodies there are.
func (x spot) trouble(l []api.Made) api.Trouble {
	t := api.Trouble{Unit: x.unit, Code: x.code}
	switch {
	case x.when == inOrders || x.when == inNames && x.withBodies:
		t.At = x.body
	case x.when == inNames && x.withGlobals:
		t.At = len(l[x.unit].Bodies) + x.global
	case x.when == inOutsides:
		t.At = x.outside
	}
	return t
}

// ahead says whether a slip is told ahead of another one.
func (x spot) ahead(y spot, l []api.Made) bool {
	a, b := x.trouble(l), y.trouble(l)
	if x.when != y.when {
		return x.when < y.when
	}
	if a.Unit != b.Unit {
		return a.Unit < b.Unit
	}
	// Of two slips with main there is the one that was put there last.
	return a.At < b.At || x.when == inMain
}

// oneBody, oneGlobal and oneOutside make what adds a thing that hangs on a tag.
func oneBody(of func(tag string) api.Body) func(string) ([]api.Body, []api.Global, []api.Outside) {
	return func(tag string) ([]api.Body, []api.Global, []api.Outside) { return []api.Body{of(tag)}, nil, nil }
}
func oneGlobal(of func(tag string) api.Global) func(string) ([]api.Body, []api.Global, []api.Outside) {
	return func(tag string) ([]api.Body, []api.Global, []api.Outside) {
		return nil, []api.Global{of(tag)}, nil
	}
}
func oneOutside(of func(tag string) api.Outside) func(string) ([]api.Body, []api.Global, []api.Outside) {
	return func(tag string) ([]api.Body, []api.Global, []api.Outside) {
		return nil, nil, []api.Outside{of(tag)}
	}
}

// slips are all that are tried.
func slips() []slip {
	l := bodySlips()
	l = append(l, nameSlips()...)
	l = append(l, typeSlips()...)
	l = append(l, twiceSlips()...)
	l = append(l, orderSlips()...)
	l = append(l, joinSlips()...)
	for code, x := range map[api.Errno]api.Type{api.ErrName: function(whole), api.ErrKind: many(function(whole))} {
		main := body("main", x, 1, back(0))
		main.Static = code == api.ErrName
		l = append(l, slip{name: "main", when: inMain, code: code, main: main})
	}
	return l
}

// bodySlips have a body that may not be.
func bodySlips() []slip {
	var l []slip
	for name, b := range map[string]api.Body{
		"none":         {},
		"its name":     body("int", function(whole), 1, back(0)),
		"its type":     body("q", whole, 1, back(0)),
		"its regs":     body("q", function(whole, long), 1, back(0)),
		"its end":      body("q", function(whole), 1, put(0)),
		"its order":    body("q", function(whole), 1, put(1), back(0)),
		"its count":    body("q", function(whole), 1, count(0), back(0)),
		"stray, also":  body("q", function(whole), 1, load(0, "nobody", 0), put(1), back(0)),
		"twice, also":  body("fa", function(whole), 1, put(1), back(0)),
		"a last order": body("q", function(whole), 1, back(0), jump(2)),
	} {
		l = append(l, slip{name: "a body: " + name, add: oneBody(func(string) api.Body { return b }), code: api.ErrForm})
	}
	return l
}

// nameSlips have a global or an outside whose name is none.
func nameSlips() []slip {
	var l []slip
	for _, name := range []string{"", "9", "long", "a b", strings.Repeat("n", 17)} {
		l = append(l,
			slip{name: "a global's name " + name, add: oneGlobal(func(string) api.Global { return api.Global{Name: name, Type: whole} }), code: api.ErrForm},
			slip{name: "an outside function's name " + name, add: oneOutside(func(string) api.Outside { return api.Outside{Name: name, Type: function(whole), Fun: true} }), code: api.ErrForm},
			slip{name: "an outside variable's name " + name, add: oneOutside(func(string) api.Outside { return api.Outside{Name: name, Type: long} }), code: api.ErrForm},
		)
	}
	return l
}

// typeSlips have a global or an outside whose type is not as K2 says, or a number that is no int's.
func typeSlips() []slip {
	var l []slip
	for _, x := range []api.Type{{}, {Kind: 9}, {Kind: api.TInt, Many: true}, {Kind: api.TLong, Name: "x"}, {Kind: api.TInt, Parts: []api.Type{whole}}, wide, structure(whole), function(whole)} {
		l = append(l,
			slip{name: "a global's type", add: oneGlobal(func(tag string) api.Global { return api.Global{Name: "q" + tag, Type: x} }), code: api.ErrForm},
			slip{name: "a static global's type", add: oneGlobal(func(tag string) api.Global { return api.Global{Name: "q" + tag, Type: x, Static: true} }), code: api.ErrForm},
			slip{name: "an outside variable's type", add: oneOutside(func(tag string) api.Outside { return api.Outside{Name: "q" + tag, Type: x} }), code: api.ErrForm},
		)
	}
	for _, x := range append([]api.Type{{}, structure(whole)}, odd()[2:]...) {
		l = append(l, slip{name: "an outside function's type", add: oneOutside(func(tag string) api.Outside { return api.Outside{Name: "q" + tag, Type: x, Fun: true} }), code: api.ErrForm})
	}
	for _, n := range []int64{math.MinInt64, math.MinInt32 - 1, math.MaxInt32 + 1, 1 << 32, math.MaxInt64} {
		l = append(l, slip{name: "a number that is no int's", add: oneGlobal(func(tag string) api.Global { return api.Global{Name: "q" + tag, Type: whole, Value: n} }), code: api.ErrForm})
	}
	return l
}

// twiceSlips give a name twice in one unit.
func twiceSlips() []slip {
	var l []slip
	names := []string{"body", "static body", "global", "static global", "function elsewhere", "variable elsewhere"}
	for a := range names {
		for b := range names {
			l = append(l, slip{name: "twice: " + names[a] + ", " + names[b], code: api.ErrForm, add: func(tag string) (bodies []api.Body, globals []api.Global, outsides []api.Outside) {
				for _, which := range []int{a, b} {
					switch {
					case which < 2:
						bodies = append(bodies, api.Body{Name: "q" + tag, Static: which == 1, Type: function(whole), Regs: 1, Code: []api.Three{back(0)}})
					case which < 4:
						globals = append(globals, api.Global{Name: "q" + tag, Static: which == 3, Type: long})
					case which == 4:
						outsides = append(outsides, api.Outside{Name: "q" + tag, Type: function(whole), Fun: true})
					default:
						outsides = append(outsides, api.Outside{Name: "q" + tag, Type: long})
					}
				}
				return bodies, globals, outsides
			}})
		}
	}
	return l
}

// orderSlips have a body with an order that speaks of what no unit of base gives so: own is a function there, z an int.
func orderSlips() []slip {
	x := function(whole)
	var l []slip
	for name, o := range map[string]api.Three{
		"a call of no name":               call(row(0), "no", x),
		"a call of what is no name":       call(row(0), "", x),
		"a call of a variable":            call(row(0), "z", x),
		"a call with another result":      call(row(0, 1), "own", function(long)),
		"a call with another parameter":   call(row(0), "own", function(whole, whole), 1),
		"a call of any number":            call(row(0), "own", many(x)),
		"a call with a struct for an int": call(row(0), "own", function(structure(whole))),
		"an address of no name":           address(0, "no"),
		"an address of what is no name":   address(0, "int"),
		"an address of a variable":        address(0, "z"),
		"a load of no name":               load(0, "no", 0),
		"a load of what is no name":       load(0, "9", 1),
		"a load of a function":            load(0, "own", 0),
		"a load of an int's word 1":       load(0, "z", 1),
		"a store of no name":              store("no", 0, 0),
		"a store of a function":           store("own", 0, 0),
		"a store of an int's word 1":      store("z", 1, 0),
	} {
		l = append(l, slip{name: name, when: inOrders, code: api.ErrName, add: oneBody(func(tag string) api.Body {
			return static(body("q"+tag, x, 9, back(0), o, back(0)))
		})})
	}
	return l
}

// joinSlips have what does not fit together with the first unit of base, or with no unit.
func joinSlips() []slip {
	var l []slip
	twice := func(name string, add func(string) ([]api.Body, []api.Global, []api.Outside)) {
		l = append(l, slip{name: name, add: add, when: inNames, code: api.ErrTwice})
	}
	twice("a body of two units", oneBody(func(tag string) api.Body { return body("F"+tag, function(whole), 1, back(0)) }))
	twice("a body of another type of two units", oneBody(func(tag string) api.Body { return body("F"+tag, function(long), 2, back(0, 1)) }))
	twice("a body and a global of two units", oneBody(func(tag string) api.Body { return body("G"+tag, function(whole), 1, back(0)) }))
	twice("a global of two units", oneGlobal(func(tag string) api.Global { return api.Global{Name: "G" + tag, Type: whole} }))
	twice("a global and a body of two units", oneGlobal(func(tag string) api.Global { return api.Global{Name: "F" + tag, Type: long} }))
	for _, c := range []struct {
		name string
		o    api.Outside
		code api.Errno
	}{
		{"a function that nobody has", api.Outside{Name: "N", Type: function(whole), Fun: true}, api.ErrName},
		{"a variable that nobody has", api.Outside{Name: "N", Type: whole}, api.ErrName},
		{"a function that is a variable", api.Outside{Name: "G", Type: function(whole), Fun: true}, api.ErrKind},
		{"a function that is of another type", api.Outside{Name: "F", Type: function(long), Fun: true}, api.ErrKind},
		{"a function that is of no any number", api.Outside{Name: "F", Type: many(function(whole)), Fun: true}, api.ErrKind},
		{"a variable that is a function", api.Outside{Name: "F", Type: whole}, api.ErrKind},
		{"a variable that is of another type", api.Outside{Name: "G", Type: long}, api.ErrKind},
	} {
		l = append(l, slip{name: c.name, when: inOutsides, code: c.code, add: oneOutside(func(tag string) api.Outside {
			o := c.o
			o.Name += tag
			return o
		})})
	}
	return l
}
