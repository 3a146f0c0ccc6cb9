package three_test

import (
	"fmt"
	"slices"
	"strings"

	"scarfjoint/api"
	"scarfjoint/types"
)

var (
	whole = api.Type{Kind: api.TInt}
	long  = api.Type{Kind: api.TLong}
)

// function is a function's type.
func function(result api.Type, params ...api.Type) api.Type {
	return api.Type{Kind: api.TFn, Parts: append(slices.Clone(params), result)}
}

// many is a function's type, of any number.
func many(t api.Type) api.Type {
	t.Many = true
	return t
}

// structure is a struct's type, with fields of these types.
func structure(parts ...api.Type) api.Type {
	return api.Type{Kind: api.TStruct, Name: "s", Names: []string{"a", "b", "c", "d", "e", "f"}[:len(parts)], Parts: parts}
}

// row is a list of registers.
func row(l ...int) []int { return l }

// from is so many registers, from one on.
func from(first, n int) []int {
	var l []int
	for at := range n {
		l = append(l, first+at)
	}
	return l
}

func constant(d, n int) api.Three { return api.Three{Op: api.TConst, D: row(d), N: n} }
func duplicate(d, s int) api.Three {
	return api.Three{Op: api.TCopy, D: row(d), S: row(s)}
}
func operation(d, op, a, b int) api.Three {
	return api.Three{Op: api.TWord, D: row(d), S: row(a, b), N: op}
}
func load(d int, name string, n int) api.Three {
	return api.Three{Op: api.TLoad, D: row(d), Name: name, N: n}
}
func store(name string, n, s int) api.Three {
	return api.Three{Op: api.TStore, S: row(s), Name: name, N: n}
}
func address(d int, name string) api.Three {
	return api.Three{Op: api.TAddr, D: row(d), Name: name}
}
func call(d []int, name string, t api.Type, s ...int) api.Three {
	return api.Three{Op: api.TCall, D: d, S: s, Name: name, Type: t}
}
func callr(d []int, t api.Type, s ...int) api.Three {
	return api.Three{Op: api.TCallr, D: d, S: s, Type: t}
}
func jump(n int) api.Three    { return api.Three{Op: api.TJump, N: n} }
func zero(s, n int) api.Three { return api.Three{Op: api.TZero, S: row(s), N: n} }
func put(s int) api.Three     { return api.Three{Op: api.TPut, S: row(s)} }
func back(s ...int) api.Three { return api.Three{Op: api.TReturn, S: s} }
func count(d int) api.Three   { return api.Three{Op: api.TCount, D: row(d)} }
func extra(d, s int) api.Three {
	return api.Three{Op: api.TExtra, D: row(d), S: row(s)}
}

// body is one that is not static.
func body(name string, t api.Type, regs int, code ...api.Three) api.Body {
	return api.Body{Name: name, Type: t, Regs: regs, Code: code}
}

// mainOf is the body main, of nine registers.
func mainOf(code ...api.Three) api.Body {
	return body("main", function(whole), 9, code...)
}

// static is a body that is its unit's alone.
func static(b api.Body) api.Body {
	b.Static = true
	return b
}

// made is a unit of bodies alone.
func made(l ...api.Body) api.Made {
	return api.Made{Bodies: l}
}

// copied is a list of units that shares no memory with another one.
func copied(l []api.Made) []api.Made {
	l = slices.Clone(l)
	for at, m := range l {
		l[at] = api.Made{Globals: slices.Clone(m.Globals), Outsides: slices.Clone(m.Outsides)}
		for i := range m.Globals {
			l[at].Globals[i].Type = copiedType(m.Globals[i].Type)
		}
		for i := range m.Outsides {
			l[at].Outsides[i].Type = copiedType(m.Outsides[i].Type)
		}
		for _, b := range m.Bodies {
			l[at].Bodies = append(l[at].Bodies, copiedBody(b))
		}
	}
	return l
}

func copiedBody(b api.Body) api.Body {
	b.Type = copiedType(b.Type)
	b.Code = slices.Clone(b.Code)
	for at, o := range b.Code {
		o.D, o.S, o.Type = slices.Clone(o.D), slices.Clone(o.S), copiedType(o.Type)
		b.Code[at] = o
	}
	return b
}

func copiedType(t api.Type) api.Type {
	t.Names = slices.Clone(t.Names)
	t.Parts = slices.Clone(t.Parts)
	for at, part := range t.Parts {
		t.Parts[at] = copiedType(part)
	}
	return t
}

// text writes units, so that they can be read where something is wrong; no more than the beginning of what is long.
func text(l ...api.Made) string {
	var b strings.Builder
	for at, m := range l {
		fmt.Fprintf(&b, "\nunit %d", at)
		for _, g := range m.Globals {
			fmt.Fprintf(&b, "\n  static %v %s %q = %d", g.Static, typeText(g.Type), g.Name, g.Value)
		}
		for _, o := range m.Outsides {
			fmt.Fprintf(&b, "\n  extern %v %s %q", o.Fun, typeText(o.Type), o.Name)
		}
		for _, x := range m.Bodies {
			fmt.Fprintf(&b, "\n  static %v %s %q, %d registers", x.Static, typeText(x.Type), x.Name, x.Regs)
			for n, o := range x.Code[:min(len(x.Code), 40)] {
				fmt.Fprintf(&b, "\n    %d: op %d D %v S %v N %d %q %s", n, o.Op, o.D, o.S, o.N, o.Name, typeText(o.Type))
			}
		}
	}
	return b.String()[:min(b.Len(), 6000)]
}

// typeText writes a type, also one that may not be.
func typeText(t api.Type) string {
	if types.May(t) {
		return types.Text(t)
	}
	return fmt.Sprintf("[kind %d, %q, %d names, %d parts]", t.Kind, t.Name, len(t.Names), len(t.Parts))
}
