package tail_test

import (
	"fmt"
	"slices"
	"strings"
	"testing"

	"scarfjoint/api"
	"scarfjoint/tail"
	"scarfjoint/types"
)

var (
	whole = api.Type{Kind: api.TInt}
	long  = api.Type{Kind: api.TLong}
	// even is a struct of four words, of which the one behind the int is left out.
	even = structure(whole, long)
	// wide is a struct of as many words as there may be.
	wide = structure(long, long, long, long, long, long)
)

// function is a function's type.
func function(result api.Type, params ...api.Type) api.Type {
	return api.Type{Kind: api.TFn, Parts: append(slices.Clone(params), result)}
}

// many is a function's type, of any number.
func many(t api.Type) api.Type {
	t.Many = true
	return t
}

// structure is a struct's type, with fields of these types.
func structure(parts ...api.Type) api.Type {
	return api.Type{Kind: api.TStruct, Name: "s", Names: []string{"a", "b", "c", "d", "e", "f"}[:len(parts)], Parts: parts}
}

// ints is a struct of so many ints.
func ints(n int) api.Type {
	return structure(slices.Repeat([]api.Type{whole}, n)...)
}

// some is so many of a type.
func some(n int, t api.Type) []api.Type {
	return slices.Repeat([]api.Type{t}, n)
}

// words tells how many words the parameters of a function's type have, and how many its result has.
func words(t api.Type) (int, int) {
	n := 0
	for _, part := range t.Parts {
		n += types.Words(part)
	}
	result := types.Words(t.Parts[len(t.Parts)-1])
	return n - result, result
}

// row is a list of registers.
func row(l ...int) []int { return l }

// from is so many registers, from one on.
func from(first, n int) []int {
	var l []int
	for at := range n {
		l = append(l, first+at)
	}
	return l
}

func constant(d int) api.Three     { return api.Three{Op: api.TConst, D: row(d), N: 7} }
func duplicate(d, s int) api.Three { return api.Three{Op: api.TCopy, D: row(d), S: row(s)} }
func sum(d, a, b int) api.Three {
	return api.Three{Op: api.TWord, D: row(d), S: row(a, b), N: api.OpAdd}
}
func load(d int) api.Three    { return api.Three{Op: api.TLoad, D: row(d), Name: "g"} }
func store(s int) api.Three   { return api.Three{Op: api.TStore, S: row(s), Name: "g"} }
func address(d int) api.Three { return api.Three{Op: api.TAddr, D: row(d), Name: "f"} }
func call(d []int, t api.Type, s ...int) api.Three {
	return api.Three{Op: api.TCall, D: d, S: s, Name: "f", Type: t}
}
func callr(d []int, t api.Type, s ...int) api.Three {
	return api.Three{Op: api.TCallr, D: d, S: s, Type: t}
}
func jump(n int) api.Three     { return api.Three{Op: api.TJump, N: n} }
func zero(s, n int) api.Three  { return api.Three{Op: api.TZero, S: row(s), N: n} }
func put(s int) api.Three      { return api.Three{Op: api.TPut, S: row(s)} }
func back(s ...int) api.Three  { return api.Three{Op: api.TReturn, S: s} }
func count(d int) api.Three    { return api.Three{Op: api.TCount, D: row(d)} }
func extra(d, s int) api.Three { return api.Three{Op: api.TExtra, D: row(d), S: row(s)} }

// calls are a call by a name and one of a word, both of a type, with so many words beyond its parameters'; D has what they return.
func calls(d []int, t api.Type, beyond int) []api.Three {
	given, _ := words(t)
	s := from(0, given+beyond)
	return []api.Three{call(d, t, s...), callr(d, t, append(row(0), s...)...)}
}

// body is one of a type.
func body(t api.Type, regs int, code ...api.Three) api.Body {
	return api.Body{Name: "f", Type: t, Regs: regs, Code: code}
}

// plain is a body without parameters that returns an int, of ten registers.
func plain(code ...api.Three) api.Body {
	return body(function(whole), 10, code...)
}

// told writes a list of numbers; no more than the beginning of one that is long.
func told(l []int) string {
	return fmt.Sprintf("%.999s", fmt.Sprint(l))
}

// tells holds that Of answers these numbers of a body, and that the chapter's words, taken one by one, say so.
func tells(t *testing.T, b api.Body, want ...int) {
	t.Helper()
	l, e := tail.Of(b)
	if e != api.OK || !slices.Equal(l, want) {
		t.Fatalf("%s\n%s, %d, not %s", text(b), told(l), e, told(want))
	}
	if l := reference(b); !slices.Equal(l, want) {
		t.Fatalf("%s\nby the chapter's words %s, not %s", text(b), told(l), told(want))
	}
}

// ends gives bodies of a type, each with a call of another type and the return of what that returns: by a name, and of a word.
func ends(own, called api.Type, beyond int) []api.Body {
	_, result := words(called)
	d := from(100, result)
	var l []api.Body
	for _, o := range calls(d, called, beyond) {
		l = append(l, body(own, 120, o, back(d...)))
	}
	return l
}

// isAtTail holds that a call of a type is at the tail in a body of a type.
func isAtTail(t *testing.T, own, called api.Type) {
	t.Helper()
	for _, b := range ends(own, called, 0) {
		tells(t, b, 0)
	}
}

// isNotAtTail holds that a call of a type is not at the tail in a body of a type, for one reason alone.
func isNotAtTail(t *testing.T, why string, own, called api.Type) {
	t.Helper()
	for _, b := range ends(own, called, 0) {
		tells(t, b)
		if l := amiss(b, 0); !slices.Equal(l, []string{why}) {
			t.Fatalf("%s\n%q, not %q", text(b), l, why)
		}
	}
}

// refuses holds that Of answers ErrForm of a body, and nothing else.
func refuses(t *testing.T, b api.Body) {
	t.Helper()
	if l, e := tail.Of(b); e != api.ErrForm || len(l) != 0 {
		t.Errorf("%s\n%v, %d", text(b), l, e)
	}
}

// text writes a body, so that it can be read where something is wrong; no more than the beginning of one that is long.
func text(b api.Body) string {
	lines := []string{fmt.Sprintf("%q of the type %s, %d registers, %d orders", b.Name, types.Text(b.Type), b.Regs, len(b.Code))}
	for at, o := range b.Code[:min(len(b.Code), 40)] {
		lines = append(lines, fmt.Sprintf("%d: op %d D %v S %v N %d %.20q %s", at, o.Op, o.D[:min(len(o.D), 20)], o.S[:min(len(o.S), 20)], o.N, o.Name, types.Text(o.Type)))
	}
	return strings.Join(lines, "\n")
}
