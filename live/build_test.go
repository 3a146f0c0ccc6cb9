package live_test

import (
	"fmt"
	"slices"
	"strconv"
	"strings"
	"testing"

	"scarfjoint/api"
	"scarfjoint/live"
	"scarfjoint/types"
)

var (
	whole = api.Type{Kind: api.TInt}
	long  = api.Type{Kind: api.TLong}
	// triple and wide are structs of three words, and of as many as there may be.
	triple = structure(whole, function(whole), whole)
	wide   = structure(long, long, long, long, long, long)
)

// function is a function's type.
func function(result api.Type, params ...api.Type) api.Type {
	return api.Type{Kind: api.TFn, Parts: append(slices.Clone(params), result)}
}

// many is a function's type, of any number.
func many(t api.Type) api.Type {
	t.Many = true
	return t
}

// structure is a struct's type, with fields of these types.
func structure(parts ...api.Type) api.Type {
	return api.Type{Kind: api.TStruct, Name: "s", Names: []string{"a", "b", "c", "d", "e", "f"}[:len(parts)], Parts: parts}
}

// words tells how many words the parameters of a function's type have, and how many its result has.
func words(t api.Type) (int, int) {
	n := 0
	for _, part := range t.Parts {
		n += types.Words(part)
	}
	result := types.Words(t.Parts[len(t.Parts)-1])
	return n - result, result
}

// row is a list of registers.
func row(l ...int) []int { return l }

// from is so many registers, from one on.
func from(first, n int) []int {
	var l []int
	for at := range n {
		l = append(l, first+at)
	}
	return l
}

func constant(d int) api.Three     { return api.Three{Op: api.TConst, D: row(d), N: 7} }
func duplicate(d, s int) api.Three { return api.Three{Op: api.TCopy, D: row(d), S: row(s)} }
func sum(d, a, b int) api.Three {
	return api.Three{Op: api.TWord, D: row(d), S: row(a, b), N: api.OpAdd}
}
func load(d int) api.Three    { return api.Three{Op: api.TLoad, D: row(d), Name: "g"} }
func store(s int) api.Three   { return api.Three{Op: api.TStore, S: row(s), Name: "g"} }
func address(d int) api.Three { return api.Three{Op: api.TAddr, D: row(d), Name: "f"} }
func call(d []int, t api.Type, s ...int) api.Three {
	return api.Three{Op: api.TCall, D: d, S: s, Name: "f", Type: t}
}
func callr(d []int, t api.Type, s ...int) api.Three {
	return api.Three{Op: api.TCallr, D: d, S: s, Type: t}
}
func jump(n int) api.Three     { return api.Three{Op: api.TJump, N: n} }
func zero(s, n int) api.Three  { return api.Three{Op: api.TZero, S: row(s), N: n} }
func put(s int) api.Three      { return api.Three{Op: api.TPut, S: row(s)} }
func back(s ...int) api.Three  { return api.Three{Op: api.TReturn, S: s} }
func count(d int) api.Three    { return api.Three{Op: api.TCount, D: row(d)} }
func extra(d, s int) api.Three { return api.Three{Op: api.TExtra, D: row(d), S: row(s)} }

// body is one of a type.
func body(t api.Type, regs int, code ...api.Three) api.Body {
	return api.Body{Name: "f", Type: t, Regs: regs, Code: code}
}

// plain is a body without parameters that returns an int, of ten registers.
func plain(code ...api.Three) api.Body {
	return body(function(whole), 10, code...)
}

// told writes what Of answers: of each order its registers, or a line; orders stand apart by semicolons.
func told(l [][]int) string {
	var orders []string
	for _, registers := range l {
		text := "-"
		if len(registers) > 0 {
			text = strings.Trim(fmt.Sprint(registers), "[]")
		}
		orders = append(orders, text)
	}
	return strings.Join(orders, "; ")
}

// lives holds what Of answers of a body, written as told writes it; and that the chapter's words, taken one by one, say so, too.
func lives(t *testing.T, b api.Body, want string) {
	t.Helper()
	l, e := live.Of(b)
	if e != api.OK || told(l) != want {
		t.Errorf("%s\n%q, %d, not %q", text(b), told(l), e, want)
	}
	if again := told(reference(b)); again != want {
		t.Errorf("%s\nthe chapter says %q, not %q", text(b), again, want)
	}
}

// refuses holds that Of answers ErrForm of a body, and nothing else.
func refuses(t *testing.T, b api.Body) {
	t.Helper()
	if l, e := live.Of(b); e != api.ErrForm || len(l) != 0 {
		t.Errorf("%s\n%q, %d", text(b), told(l), e)
	}
}

// text writes a body, so that it can be read where something is wrong; no more than the beginning of one that is long.
func text(b api.Body) string {
	lines := []string{fmt.Sprintf("%q of the type %s, %d registers, %d orders", b.Name, types.Text(b.Type), b.Regs, len(b.Code))}
	for at, o := range b.Code[:min(len(b.Code), 40)] {
		lines = append(lines, strconv.Itoa(at)+fmt.Sprintf(": op %d D %.99v S %.99v N %d %q %s", o.Op, o.D, o.S, o.N, o.Name, types.Text(o.Type)))
	}
	return strings.Join(lines, "\n")
}
