package check_test

import (
	"slices"
	"strings"
	"testing"

	"scarfjoint/api"
	"scarfjoint/check"
	"scarfjoint/lex"
	"scarfjoint/syntax"
)

// tokens has the texts of a text's tokens, a long with its L.
func tokens(text string) []string {
	l, _ := lex.Scan(text)
	var texts []string
	for _, token := range l {
		if token.Kind == api.KLong {
			token.Text += "L"
		}
		texts = append(texts, token.Text)
	}
	return texts
}

// agrees holds a text's answers against the chapter written once more, and tells which kind of node is wrong, and how.
func agrees(t *testing.T, text string) (kind int, code api.Errno) {
	t.Helper()
	n, f := syntax.Parse(text)
	if f.Code != api.OK {
		fails(t, text, f)
		return -1, f.Code
	}
	want, wrong, kind := reference(n)
	if wrong.Code != api.OK {
		fails(t, text, wrong)
		return kind, wrong.Code
	}
	if m, f := check.Check(text); f != wrong || !same(m, n) {
		t.Errorf("%q: %v", text, f)
	}
	if l, f := check.Types(text); f != wrong || !slices.Equal(l, want) {
		t.Errorf("%q: %v %q, not %q", text, f, l, want)
	}
	want = declared(n)
	if l, f := check.Declared(text); f != wrong || !slices.Equal(l, want) {
		t.Errorf("%q: %v %q, not %q", text, f, l, want)
	}
	return 0, api.OK
}

// G1 to G7: drawn units may be, and have the types that the chapter says.
func TestDrawnUnits(t *testing.T) {
	d := drawer(0x2545f4914f6cdd1d)
	met := map[int]int{}
	for range 2500 {
		text := d.unit(0)
		kind, code := agrees(t, text)
		if kind == -1 && code == api.ErrSize {
			continue // it is too long, or too deep
		}
		if code != api.OK {
			t.Fatalf("%q: %v of a node of kind %d", text, code, kind)
		}
		n, _ := check.Check(text)
		for _, n := range all(n) {
			met[n.Kind]++
		}
	}
	for kind := api.NUnit; kind <= api.NExtra; kind++ {
		if met[kind] < 100 {
			t.Error("rarely drawn", kind, met[kind])
		}
	}
}

// spoilt draws a unit with some of its tokens changed for others, so that it is often a unit yet, but one that may not be.
func (d *drawer) spoilt(pool []string) string {
	l := tokens(d.unit(0))
	for range 1 + d.below(3) {
		if len(l) == 0 {
			break
		}
		at, from := d.below(len(l)), d.below(len(l))
		switch d.below(6) {
		case 0:
			l[at] = l[from]
		case 1, 2:
			l[at] = one(d, pool)
		case 3: // a name for another one
			names := slices.Clone(l)
			names = slices.DeleteFunc(names, func(s string) bool { return strings.ContainsAny(s[:1], "0123456789(){}=;.,+-*/%&|^!<") })
			at = slices.Index(l, one(d, append(names, l[at])))
			l[at] = one(d, append(names, l[at]))
		case 4: // some tokens once more
			to := min(len(l), at+1+d.below(12))
			l = slices.Insert(slices.Clone(l), to, l[at:to]...)
		case 5:
			to := min(len(l), at+1+d.below(4))
			l = slices.Delete(l, at, to)
		}
	}
	return strings.Join(l, " ")
}

// G1 to G6: drawn units with slips, or with some tokens changed, have the fault that the chapter says; all of their kinds come up.
func TestDrawnFaults(t *testing.T) {
	d := drawer(0x9e3779b97f4a7c15)
	pool := strings.Fields("1 1L int long x a0 b0 c0 d0 e0 f0 & - ! count static extern + / % == < put return while if")
	met := map[[2]int]int{}
	for i := range 24000 {
		text := d.unit(20 + d.below(100))
		if i%2 == 0 {
			text = d.spoilt(pool)
		}
		kind, code := agrees(t, text)
		met[[2]int{kind, int(code)}]++
		if t.Failed() {
			return
		}
	}
	size, form, kind, name, twice, beyond := int(api.ErrSize), int(api.ErrForm), int(api.ErrKind), int(api.ErrName), int(api.ErrTwice), int(api.ErrRange)
	for _, want := range [][2]int{
		{0, 0}, {api.NNamed, name}, {api.NStruct, twice}, {api.NField, twice}, {api.NExtern, twice}, {api.NFun, twice},
		{api.NOutside, twice}, {api.NOutside, kind}, {api.NGlobal, twice}, {api.NGlobal, kind}, {api.NParam, twice},
		{api.NName, kind}, {api.NName, name}, {api.NAddr, name}, {api.NVar, twice}, {api.NVar, kind}, {api.NVar, size},
		{api.NNeg, kind}, {api.NNot, kind}, {api.NToInt, kind}, {api.NToLong, kind}, {api.NOp, kind}, {api.NDot, kind}, {api.NDot, name},
		{api.NMake, name}, {api.NMake, beyond}, {api.NMake, kind}, {api.NCall, kind}, {api.NCall, beyond}, {api.NCount, form},
		{api.NExtra, form}, {api.NExtra, kind}, {api.NSet, kind}, {api.NIf, kind}, {api.NWhile, kind}, {api.NReturn, kind},
		{api.NPut, kind}, {api.NBlock, form}, {api.NFnT, size}, {api.NStruct, size}, {api.NExtern, size}, {api.NFun, size},
	} {
		if met[want] < 3 {
			t.Error("rarely met", want, met[want])
		}
	}
}
