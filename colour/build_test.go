package colour_test

import (
	"fmt"
	"slices"
	"strconv"
	"strings"
	"testing"

	"scarfjoint/api"
	"scarfjoint/colour"
	"scarfjoint/types"
)

var (
	whole = api.Type{Kind: api.TInt}
	long  = api.Type{Kind: api.TLong}
	// triple and wide are structs of three words, and of as many as there may be.
	triple = structure(whole, function(whole), whole)
	wide   = structure(long, long, long, long, long, long)
)

// function is a function's type.
func function(result api.Type, params ...api.Type) api.Type {
	return api.Type{Kind: api.TFn, Parts: append(slices.Clone(params), result)}
}

// many is a function's type, of any number.
func many(t api.Type) api.Type {
	t.Many = true
	return t
}

// structure is a struct's type, with fields of these types.
func structure(parts ...api.Type) api.Type {
	return api.Type{Kind: api.TStruct, Name: "s", Names: []string{"a", "b", "c", "d", "e", "f"}[:len(parts)], Parts: parts}
}

// words tells how many words the parameters of a function's type have, and how many its result has.
func words(t api.Type) (int, int) {
	n := 0
	for _, part := range t.Parts {
		n += types.Words(part)
	}
	result := types.Words(t.Parts[len(t.Parts)-1])
	return n - result, result
}

// row is a list of registers.
func row(l ...int) []int { return l }

// from is so many registers, from one on.
func from(first, n int) []int {
	var l []int
	for at := range n {
		l = append(l, first+at)
	}
	return l
}

func constant(d int) api.Three     { return api.Three{Op: api.TConst, D: row(d), N: 7} }
func duplicate(d, s int) api.Three { return api.Three{Op: api.TCopy, D: row(d), S: row(s)} }
func sum(d, a, b int) api.Three {
	return api.Three{Op: api.TWord, D: row(d), S: row(a, b), N: api.OpAdd}
}
func load(d int) api.Three    { return api.Three{Op: api.TLoad, D: row(d), Name: "g"} }
func store(s int) api.Three   { return api.Three{Op: api.TStore, S: row(s), Name: "g"} }
func address(d int) api.Three { return api.Three{Op: api.TAddr, D: row(d), Name: "f"} }
func call(d []int, t api.Type, s ...int) api.Three {
	return api.Three{Op: api.TCall, D: d, S: s, Name: "f", Type: t}
}
func callr(d []int, t api.Type, s ...int) api.Three {
	return api.Three{Op: api.TCallr, D: d, S: s, Type: t}
}
func jump(n int) api.Three     { return api.Three{Op: api.TJump, N: n} }
func zero(s, n int) api.Three  { return api.Three{Op: api.TZero, S: row(s), N: n} }
func put(s int) api.Three      { return api.Three{Op: api.TPut, S: row(s)} }
func back(s ...int) api.Three  { return api.Three{Op: api.TReturn, S: s} }
func count(d int) api.Three    { return api.Three{Op: api.TCount, D: row(d)} }
func extra(d, s int) api.Three { return api.Three{Op: api.TExtra, D: row(d), S: row(s)} }

// all tells registers, one order each.
func all(registers ...int) []api.Three {
	var code []api.Three
	for _, register := range registers {
		code = append(code, put(register))
	}
	return code
}

// constants gives registers a word, one order each.
func constants(registers ...int) []api.Three {
	var code []api.Three
	for _, register := range registers {
		code = append(code, constant(register))
	}
	return code
}

// body is one of a type.
func body(t api.Type, regs int, code ...api.Three) api.Body {
	return api.Body{Name: "f", Type: t, Regs: regs, Code: code}
}

// plain is a body without parameters that returns an int, of ten registers.
func plain(code ...api.Three) api.Body {
	return body(function(whole), 10, code...)
}

// told writes what Of answers: r and s with a number, for a register of the machine, and for a place of the frame.
func told(l []api.Loc) string {
	var places []string
	for _, x := range l {
		letter := "r"
		if x.Stack {
			letter = "s"
		}
		places = append(places, letter+strconv.Itoa(x.N))
	}
	return strings.Join(places, " ")
}

// lies holds that what Of answers of a body that may be is as the chapter's words, taken one by one, say.
func lies(t *testing.T, b api.Body) []api.Loc {
	t.Helper()
	l, e := colour.Of(b)
	if e != api.OK {
		t.Fatal(text(b), e)
	}
	if wrong := amiss(b, reference(b), l); wrong != "" {
		t.Fatalf("%s\n%.999s\n%s", text(b), told(l), wrong)
	}
	return l
}

// liesApart holds besides that the registers of each of some lists lie apart from one another; and that the chapter asks for it.
func liesApart(t *testing.T, b api.Body, lists ...[]int) {
	t.Helper()
	l, ahead := lies(t, b), reference(b)
	for _, registers := range lists {
		for at, register := range registers {
			for _, other := range registers[:at] {
				if l[register] == l[other] {
					t.Errorf("%s\n%s: %d and %d lie together", text(b), told(l), other, register)
				}
				if mayLie(b, ahead, api.Loc{N: 5}, register, other) {
					t.Errorf("%s\n%d and %d may lie together", text(b), other, register)
				}
			}
		}
	}
}

// isLost says whether a call may overwrite what lies at a place.
func isLost(x api.Loc) bool {
	return !x.Stack && x.N <= 3
}

// liesKept holds besides that registers do not lie where calls may overwrite them; and that the chapter asks for it.
func liesKept(t *testing.T, b api.Body, registers ...int) {
	t.Helper()
	l, ahead := lies(t, b), reference(b)
	for _, register := range registers {
		if isLost(l[register]) {
			t.Errorf("%s\n%s: %d is lost in a call", text(b), told(l), register)
		}
		for n := range 12 {
			if mayLie(b, ahead, api.Loc{N: n}, register) != (n > 3) {
				t.Errorf("%s\n%d may lie in %d, or not", text(b), register, n)
			}
		}
	}
}

// refuses holds that Of answers ErrForm of a body, and nothing else.
func refuses(t *testing.T, b api.Body) {
	t.Helper()
	if l, e := colour.Of(b); e != api.ErrForm || len(l) != 0 {
		t.Errorf("%s\n%q, %d", text(b), told(l), e)
	}
}

// text writes a body, so that it can be read where something is wrong; no more than the beginning of one that is long.
func text(b api.Body) string {
	lines := []string{fmt.Sprintf("%q of the type %s, %d registers, %d orders", b.Name, types.Text(b.Type), b.Regs, len(b.Code))}
	for at, o := range b.Code[:min(len(b.Code), 40)] {
		lines = append(lines, fmt.Sprintf("%d: op %d D %v S %v N %d %.20q %s", at, o.Op, o.D[:min(len(o.D), 20)], o.S[:min(len(o.S), 20)], o.N, o.Name, types.Text(o.Type)))
	}
	return strings.Join(lines, "\n")
}
