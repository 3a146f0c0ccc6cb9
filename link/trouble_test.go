package link_test

import (
	"fmt"
	"math"
	"slices"
	"testing"

	"scarfjoint/api"
)

// S1: how many objects there are.
func TestCount(t *testing.T) {
	tells(t, "none", nil, 100, api.Trouble{Code: api.ErrSize})
	tells(t, "none", []api.Object{}, 100, api.Trouble{Code: api.ErrSize})
	tells(t, "none, and no memory", nil, -1, api.Trouble{Code: api.ErrSize})
	for n := range 12 {
		l := append(all(objectOf(start())), make([]api.Object, n)...)
		want := api.Trouble{}
		if n+1 > api.MaxUnits {
			want.Code = api.ErrSize
		}
		tells(t, fmt.Sprint(n+1, " objects"), l, 100, want)
	}
	tells(t, "many", make([]api.Object, 5000), 100, api.Trouble{Code: api.ErrSize})
	tells(t, "MaxUnits of nothing", make([]api.Object, api.MaxUnits), 100, api.Trouble{Code: api.ErrName})
}

// misfits are objects that may not be.
func misfits() map[string]api.Object {
	l := map[string]api.Object{
		"Code without a symbol": {Code: []uint32{0}},
		"Data without a symbol": {Data: []int32{0}},
		"too much Code":         {Code: make([]uint32, api.MaxCode+1), Symbols: []api.Symbol{{Name: "z", Kind: api.SymFun, Size: api.MaxCode + 1, Sign: "x"}}},
		"too much Data":         {Data: make([]int32, api.MaxMemory+1), Symbols: []api.Symbol{{Name: "z", Kind: api.SymData, Size: api.MaxMemory + 1, Sign: "x"}}},
		"no name":               objectOf(outFun("")),
		"no sign":               objectOf(signed(outFun("f"), "")),
		"a static outside":      objectOf(static(outFun("f"))),
		"one name twice":        objectOf(variable("f", 1), outFun("f")),
		"one function twice":    objectOf(start(), start()),
		"no kind":               {Symbols: []api.Symbol{{Name: "f", Sign: "int"}}},
		"a frame too great":     objectOf(framed(start(), api.MaxMemory+1)),
		"a place that is none":  {Code: []uint32{0}, Symbols: []api.Symbol{{Name: "f", Kind: api.SymFun, At: math.MaxInt, Size: 1, Sign: "x"}}},
		"a reloc of no symbol":  {Relocs: []api.Reloc{{}}},
	}
	for why, r := range map[string]api.Reloc{
		"a reloc of another instruction": {At: 1, Symbol: 1},
		"a reloc at no place":            {At: 2, Symbol: 1},
		"a reloc ahead of all":           {At: -1, Symbol: 1},
		"a reloc of what is not there":   {Symbol: 3},
		"a reloc below all symbols":      {Symbol: -1},
		"a reloc that adds too much":     {Symbol: 1, Add: api.MaxCode + 1},
		"a reloc that adds the most":     {Symbol: 1, Add: math.MaxInt},
		"a reloc that takes away":        {Symbol: 1, Add: -1},
	} {
		o := objectOf(fun("f", "call 0", "exit r0"), outFun("g"), variable("v", 1))
		o.Relocs = []api.Reloc{r}
		l[why] = o
	}
	return l
}

// S1: objects that may not be, the first one and later ones.
func TestForm(t *testing.T) {
	for why, o := range misfits() {
		for n := range api.MaxUnits {
			for unit := range n + 1 {
				l := make([]api.Object, n+1)
				l[0] = objectOf(start())
				l[unit] = o
				tells(t, why, l, 100, api.Trouble{Unit: unit, Code: api.ErrForm})
			}
			l := slices.Repeat(all(o), n+1)
			tells(t, why+", all", l, 100, api.Trouble{Code: api.ErrForm})
			l[0] = api.Object{}
			if n > 0 {
				tells(t, why+", all but one", l, 100, api.Trouble{Unit: 1, Code: api.ErrForm})
			}
		}
	}
}

// S1: a name in two objects, of functions and variables, static or not.
func TestTwice(t *testing.T) {
	things := []part{fun("x", "exit r1"), static(fun("x", "exit r1")), variable("x", 1), static(variable("x", 1))}
	for _, a := range things {
		for _, b := range things {
			want := api.Trouble{}
			if !a.Static && !b.Static {
				want = api.Trouble{Unit: 1, Code: api.ErrTwice, At: 2}
			}
			why := told([]bool{a.Kind == api.SymFun, a.Static, b.Kind == api.SymFun, b.Static})
			tells(t, why, all(objectOf(start(), a), objectOf(variable("y", 1), fun("z", "exit r0"), b)), 100, want)
			// The sign is nothing to it.
			tells(t, why+" of another sign", all(objectOf(start(), a), objectOf(variable("y", 1), fun("z", "exit r0"), signed(b, "long"))), 100, want)
			if want.Code != api.OK {
				want = api.Trouble{Unit: 3, Code: api.ErrTwice}
			}
			tells(t, why+" far apart", all(objectOf(a), objectOf(start()), api.Object{}, objectOf(b)), 100, want)
			// What is but said to stand elsewhere is no second one.
			if !a.Static && b.Static {
				said := part{Symbol: api.Symbol{Name: "x", Kind: a.Kind + 2, Sign: a.Sign}}
				wellDone(t, why+" and one that speaks of it", all(objectOf(said), objectOf(start(), a), objectOf(b), objectOf(said)), 100)
			}
		}
	}
}

// S1: one name in three objects.
func TestTwiceOfThree(t *testing.T) {
	x := variable("x", 1)
	for n := range 8 {
		var l []api.Object
		open, want := 0, api.Trouble{}
		for unit := range 3 {
			p := x
			p.Static = n>>unit&1 == 1
			if !p.Static {
				open++
			}
			if open == 2 && want.Code == api.OK && !p.Static {
				want = api.Trouble{Unit: unit, Code: api.ErrTwice, At: 1}
			}
			l = append(l, objectOf(static(variable("w", 1)), p))
		}
		tells(t, fmt.Sprint("three: ", n), append(l, objectOf(start())), 100, want)
	}
	// The first symbol of the first object is told, whichever was there first.
	tells(t, "two names", all(objectOf(variable("a", 1), variable("b", 1)), objectOf(start(), variable("b", 1), variable("a", 1))), 100, api.Trouble{Unit: 1, Code: api.ErrTwice, At: 1})
	tells(t, "two names in three", all(objectOf(variable("a", 1)), objectOf(variable("b", 1)), objectOf(variable("b", 1), start(), variable("a", 1))), 100, api.Trouble{Unit: 2, Code: api.ErrTwice})
	tells(t, "main", all(objectOf(start()), objectOf(variable("y", 1), start())), 100, api.Trouble{Unit: 1, Code: api.ErrTwice, At: 1})
}

// S1: what stands elsewhere is there, is static, is of another kind or of another Sign.
func TestOutsides(t *testing.T) {
	things := map[string]part{"function": fun("x", "exit r1"), "variable": variable("x", 1)}
	outsides := map[string]part{"function": outFun("x"), "variable": outVariable("x")}
	trouble := func(code api.Errno) api.Trouble { return api.Trouble{Unit: 1, Code: code, At: 2} }
	speaking := func(p part) api.Object { return objectOf(start(), variable("y", 1), p) }
	for said, p := range outsides {
		tells(t, said+" that no object has", all(api.Object{}, speaking(p)), 100, trouble(api.ErrName))
		tells(t, said+" that all but speak of", all(api.Object{}, speaking(p), objectOf(p)), 100, trouble(api.ErrName))
		for is, x := range things {
			why := said + " that is a " + is
			tells(t, why+" and static", all(objectOf(static(x)), speaking(p)), 100, trouble(api.ErrName))
			tells(t, why+" and static, of another sign", all(objectOf(signed(static(x), "z")), speaking(p)), 100, trouble(api.ErrName))
			want := trouble(api.ErrKind)
			if is == said {
				want = api.Trouble{}
			}
			// The kinds are told apart whatever the signs are.
			for _, sign := range []string{"int", "fn()int", "~", " "} {
				tells(t, why, all(objectOf(signed(x, sign)), speaking(signed(p, sign))), 100, want)
				tells(t, why+" behind", all(api.Object{}, speaking(signed(p, sign)), api.Object{}, objectOf(signed(x, sign))), 100, want)
				tells(t, why+" beside a static one", all(objectOf(static(x)), speaking(signed(p, sign)), objectOf(signed(x, sign))), 100, want)
				for _, other := range []string{"long", "fn()long", "fn() int", "FN()INT", sign + " ", sign + sign} {
					tells(t, why+" of another sign", all(objectOf(signed(x, sign)), speaking(signed(p, other))), 100, trouble(api.ErrKind))
				}
			}
		}
	}
	tells(t, "a letter less", all(objectOf(fun("xy", "exit r0")), speaking(outFun("x"))), 100, trouble(api.ErrName))
	tells(t, "a great letter", all(objectOf(fun("X", "exit r0")), speaking(outFun("x"))), 100, trouble(api.ErrName))
	wellDone(t, "main that stands elsewhere", all(objectOf(outFun("main")), objectOf(start())), 100)
	tells(t, "main as a variable elsewhere", all(objectOf(signed(outVariable("main"), "fn()int")), objectOf(start())), 100, api.Trouble{Code: api.ErrKind})
	// An object that has what it says stands elsewhere may not be, whoever else has it.
	tells(t, "its own", all(objectOf(start(), fun("x", "exit r0"), outFun("x")), objectOf(variable("y", 1))), 100, api.Trouble{Code: api.ErrForm})
}

// S1: two faults of open symbols, in one object and in two, in both orders: the one that comes first is told, of whichever sort it is.
func TestTwoOutsides(t *testing.T) {
	own := objectOf(start(), variable("v", 1), fun("f", "exit r0"))
	faults := map[api.Errno]part{api.ErrName: outFun("nobody"), api.ErrKind: outFun("v")}
	for a, first := range faults {
		for b, second := range faults {
			if a == b {
				continue
			}
			for _, between := range [][]part{{}, {outFun("f")}, {outFun("main"), static(variable("w", 1)), outFun("f")}} {
				parts := slices.Concat([]part{static(variable("u", 1)), first}, between, []part{second})
				tells(t, "in one object", all(own, objectOf(parts...)), 100, api.Trouble{Unit: 1, Code: a, At: 1})
				tells(t, "in one object ahead", all(objectOf(parts...), own), 100, api.Trouble{Unit: 0, Code: a, At: 1})
				one, two := objectOf(append(between, first)...), objectOf(second)
				tells(t, "in two objects", all(own, one, two), 100, api.Trouble{Unit: 1, Code: a, At: len(between)})
				tells(t, "in two objects, with one between", all(one, own, two), 100, api.Trouble{Unit: 0, Code: a, At: len(between)})
				tells(t, "in two objects the other way round", all(own, two, one), 100, api.Trouble{Unit: 1, Code: b})
			}
		}
	}
}

// S1: main.
func TestMain(t *testing.T) {
	rest := objectOf(variable("v", 1), fun("f", "exit r0"))
	for why, c := range map[string]struct {
		l    []api.Object
		want api.Errno
	}{
		"there":                             {all(rest, objectOf(start())), api.OK},
		"ahead":                             {all(objectOf(start()), rest), api.OK},
		"not there":                         {all(rest), api.ErrName},
		"a letter more":                     {all(rest, objectOf(fun("main1", "exit r0"))), api.ErrName},
		"great letters":                     {all(rest, objectOf(fun("Main", "exit r0"))), api.ErrName},
		"static":                            {all(rest, objectOf(static(start()))), api.ErrName},
		"static, of another sign":           {all(rest, objectOf(signed(static(start()), "int"))), api.ErrName},
		"static and not":                    {all(objectOf(static(start())), rest, objectOf(start())), api.OK},
		"static and of another sign":        {all(objectOf(static(start())), rest, objectOf(signed(start(), "fn()long"))), api.ErrKind},
		"a variable":                        {all(rest, objectOf(variable("main", 1))), api.ErrName},
		"a variable of that sign":           {all(rest, objectOf(signed(variable("main", 1), "fn()int"))), api.ErrName},
		"a variable, and a static function": {all(objectOf(static(start())), objectOf(signed(variable("main", 1), "fn()int"))), api.ErrName},
		"a static variable":                 {all(rest, objectOf(static(variable("main", 1)))), api.ErrName},
		"a static variable and a function":  {all(objectOf(static(variable("main", 1))), objectOf(start())), api.OK},
		"fn()long":                          {all(objectOf(signed(start(), "fn()long"))), api.ErrKind},
		"fn(int)int":                        {all(objectOf(signed(start(), "fn(int)int"))), api.ErrKind},
		"fn(...)int":                        {all(objectOf(signed(start(), "fn(...)int"))), api.ErrKind},
		"int":                               {all(objectOf(signed(start(), "int"))), api.ErrKind},
		"a blank":                           {all(objectOf(signed(start(), "fn() int"))), api.ErrKind},
		"a blank behind":                    {all(objectOf(signed(start(), "fn()int "))), api.ErrKind},
	} {
		tells(t, "main "+why, c.l, 100, api.Trouble{Code: c.want})
	}
	// Open alone: its symbol is told, not main itself.
	tells(t, "main open alone", all(rest, objectOf(outFun("main"))), 100, api.Trouble{Unit: 1, Code: api.ErrName})
	tells(t, "main open of another sign", all(objectOf(start()), objectOf(variable("w", 1), signed(outFun("main"), "fn()long"))), 100, api.Trouble{Unit: 1, Code: api.ErrKind, At: 1})
	tells(t, "main open, of the same other sign", all(objectOf(signed(start(), "fn()long")), objectOf(variable("w", 1), signed(outFun("main"), "fn()long"))), 100, api.Trouble{Code: api.ErrKind})
}
