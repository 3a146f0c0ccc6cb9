package emit_test

import (
	"fmt"
	"slices"
	"strings"

	"scarfjoint/api"
	"scarfjoint/types"
)

var (
	whole = api.Type{Kind: api.TInt}
	long  = api.Type{Kind: api.TLong}
	// even is a struct of four words, of which the one behind the int is left out.
	even = structure(whole, long)
	// wide is a struct of as many words as there may be.
	wide = structure(long, long, long, long, long, long)
)

// function is a function's type.
func function(result api.Type, params ...api.Type) api.Type {
	return api.Type{Kind: api.TFn, Parts: append(slices.Clone(params), result)}
}

// many is a function's type, of any number.
func many(t api.Type) api.Type {
	t.Many = true
	return t
}

// structure is a struct's type, with fields of these types.
func structure(parts ...api.Type) api.Type {
	return api.Type{Kind: api.TStruct, Name: "s", Names: []string{"a", "b", "c", "d", "e", "f"}[:len(parts)], Parts: parts}
}

// ints is a struct of so many words, none of them a long's.
func ints(n int) api.Type {
	if n > api.MaxFields {
		return structure(ints(api.MaxFields), ints(n-api.MaxFields))
	}
	return structure(some(n, whole)...)
}

// some is so many of a type.
func some(n int, t api.Type) []api.Type {
	return slices.Repeat([]api.Type{t}, n)
}

// words tells how many words the parameters of a function's type have, and how many its result has.
func words(t api.Type) (int, int) {
	n := 0
	for _, part := range t.Parts {
		n += types.Words(part)
	}
	result := types.Words(t.Parts[len(t.Parts)-1])
	return n - result, result
}

// row is a list of registers.
func row(l ...int) []int { return l }

// from is so many registers, from one on.
func from(first, n int) []int {
	var l []int
	for at := range n {
		l = append(l, first+at)
	}
	return l
}

func constant(d, n int) api.Three  { return api.Three{Op: api.TConst, D: row(d), N: n} }
func duplicate(d, s int) api.Three { return api.Three{Op: api.TCopy, D: row(d), S: row(s)} }
func operation(d, op, a, b int) api.Three {
	return api.Three{Op: api.TWord, D: row(d), S: row(a, b), N: op}
}
func load(d int, name string, n int) api.Three {
	return api.Three{Op: api.TLoad, D: row(d), Name: name, N: n}
}
func store(name string, n, s int) api.Three {
	return api.Three{Op: api.TStore, S: row(s), Name: name, N: n}
}
func address(d int, name string) api.Three {
	return api.Three{Op: api.TAddr, D: row(d), Name: name}
}
func call(d []int, name string, t api.Type, s ...int) api.Three {
	return api.Three{Op: api.TCall, D: d, S: s, Name: name, Type: t}
}
func callr(d []int, t api.Type, s ...int) api.Three {
	return api.Three{Op: api.TCallr, D: d, S: s, Type: t}
}
func jump(n int) api.Three     { return api.Three{Op: api.TJump, N: n} }
func zero(s, n int) api.Three  { return api.Three{Op: api.TZero, S: row(s), N: n} }
func put(s int) api.Three      { return api.Three{Op: api.TPut, S: row(s)} }
func back(s ...int) api.Three  { return api.Three{Op: api.TReturn, S: s} }
func count(d int) api.Three    { return api.Three{Op: api.TCount, D: row(d)} }
func extra(d, s int) api.Three { return api.Three{Op: api.TExtra, D: row(d), S: row(s)} }

// puts tells registers, one behind the other.
func puts(registers ...int) []api.Three {
	var l []api.Three
	for _, register := range registers {
		l = append(l, put(register))
	}
	return l
}

// constants gives so many registers, from one on, the words first, first + 1, ..
func constants(register, n, first int) []api.Three {
	var l []api.Three
	for at := range n {
		l = append(l, constant(register+at, first+at))
	}
	return l
}

// body is one that is not static.
func body(name string, t api.Type, regs int, code ...api.Three) api.Body {
	return api.Body{Name: name, Type: t, Regs: regs, Code: code}
}

// mainOf is the body main, of twenty registers.
func mainOf(code ...api.Three) api.Body {
	return body("main", function(whole), 20, code...)
}

// static is a body that is its unit's alone.
func static(b api.Body) api.Body {
	b.Static = true
	return b
}

// made is a unit of bodies alone.
func made(l ...api.Body) api.Made {
	return api.Made{Bodies: l}
}

// outside is what a unit says of a body that stands elsewhere.
func outside(b api.Body) api.Outside {
	return api.Outside{Name: b.Name, Type: b.Type, Fun: true}
}

// told writes something; no more than the beginning of what is long.
func told(v any) string {
	return fmt.Sprintf("%.600s", fmt.Sprint(v))
}

// text writes units, so that they can be read where something is wrong; no more than the beginning of what is long.
func text(l ...api.Made) string {
	var b strings.Builder
	for at, m := range l {
		fmt.Fprintf(&b, "\nunit %d", at)
		for _, g := range m.Globals {
			fmt.Fprintf(&b, "\n  static %v %s %q = %d", g.Static, types.Text(g.Type), g.Name, g.Value)
		}
		for _, o := range m.Outsides {
			fmt.Fprintf(&b, "\n  extern %v %s %q", o.Fun, types.Text(o.Type), o.Name)
		}
		for _, x := range m.Bodies {
			fmt.Fprintf(&b, "\n  static %v %s %q, %d registers", x.Static, types.Text(x.Type), x.Name, x.Regs)
			for n, o := range x.Code[:min(len(x.Code), 30)] {
				fmt.Fprintf(&b, "\n    %d: op %d D %v S %v N %d %.20q %s", n, o.Op, o.D, o.S, o.N, o.Name, types.Text(o.Type))
			}
		}
	}
	return b.String()[:min(b.Len(), 2500)]
}
