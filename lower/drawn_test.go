package lower_test

import (
	"slices"
	"strconv"
	"strings"
	"testing"

	"scarfjoint/api"
	"scarfjoint/check"
	"scarfjoint/lex"
	"scarfjoint/lower"
	"scarfjoint/model"
	"scarfjoint/three"
)

// met counts the kinds of a node and all below it.
func met(n api.Node, kinds map[int]int) {
	kinds[n.Kind]++
	for _, kid := range n.Kids {
		met(kid, kinds)
	}
}

// headsOf writes what L1 asks for of a text, from its nodes alone.
func headsOf(text string) []string {
	n, _ := check.Check(text)
	signs, _ := check.Declared(text)
	var bodies, globals, outsides []string
	for at, kid := range n.Kids {
		about := kid.Text + " " + signs[at]
		static := []string{"", "static "}[kid.Num%2]
		switch kid.Kind {
		case api.NFun:
			bodies = append(bodies, static+"body "+about)
		case api.NGlobal:
			globals = append(globals, static+"global "+about+" "+strconv.FormatInt(kid.Kids[1].Num, 10))
		case api.NExtern:
			outsides = append(outsides, "function "+about)
		case api.NOutside:
			outsides = append(outsides, "variable "+about)
		}
	}
	return slices.Concat(bodies, globals, outsides)
}

// L1, L2, P3: drawn programs: what stands in their units, what their orders do with fuel enough and with less, and that no two lists share memory.
func TestDrawnPrograms(t *testing.T) {
	d := drawer(0x2545f4914f6cdd1d)
	ends, kinds, orders, units, long := map[int]int{}, map[int]int{}, map[int]int{}, map[int]int{}, 0
	for range 1500 {
		texts, ok := d.program()
		if !ok {
			continue
		}
		if trouble := model.Check(texts); trouble != (api.Trouble{}) {
			if trouble.Code != api.ErrSize { // a text is too long, or too deep
				t.Fatalf("%q: %v", texts, trouble)
			}
			continue
		}
		l := madeOfAll(t, texts)
		for at, text := range texts {
			makes(t, text, headsOf(text)...)
			n, _ := check.Check(text)
			met(n, kinds)
			for _, b := range l[at].Bodies {
				for _, o := range b.Code {
					orders[o.Op]++
				}
			}
		}
		apart(t, texts[0], l...)
		want, _ := model.Run(texts, api.MaxSteps)
		agrees(t, texts, l, api.MaxSteps)
		agrees(t, texts, l, want.Steps)
		for range 3 {
			agrees(t, texts, l, d.below(want.Steps+1))
		}
		if t.Failed() {
			return
		}
		ends[want.End]++
		units[len(texts)]++
		long += count(want.Steps > 60 && want.End == api.RunExit)
	}
	for end := api.RunFuel; end <= api.RunDivided; end++ {
		if ends[end] < 100 {
			t.Error("rarely drawn", ends)
		}
	}
	for kind := api.NUnit; kind <= api.NExtra; kind++ {
		if kinds[kind] < 200 {
			t.Error("rarely drawn", kind, kinds[kind])
		}
	}
	for op := api.TConst; op <= api.TExtra; op++ {
		if orders[op] < 200 {
			t.Error("rarely made", op, orders[op])
		}
	}
	if long < 100 || len(units) != api.MaxUnits {
		t.Error("rarely drawn", long, units)
	}
}

// changed is a drawn text with a token or two changed, left out, or twice: mostly to another one of its sort.
func (d *drawer) changed(text string) string {
	tokens, _ := lex.Scan(text)
	words, sorts := []string{}, map[int][]string{}
	for _, token := range tokens {
		if token.Kind == api.KLong {
			token.Text += "L"
			token.Kind = api.KNumber
		}
		words = append(words, token.Text)
		sorts[token.Kind] = append(sorts[token.Kind], token.Text)
	}
	for range min(len(words), 1+d.below(2)) {
		at := d.below(len(words))
		for try := 0; try < 9 && tokens[at].Kind == api.KSign; try++ {
			at = d.below(len(words))
		}
		kind := tokens[at].Kind
		if kind == api.KLong {
			kind = api.KNumber
		}
		switch d.below(12) {
		case 0:
			words[at] = ""
		case 1:
			words[at] += " " + words[at]
		case 2:
			words[at] += ", " + oneOf(d, words)
		default:
			words[at] = oneOf(d, sorts[kind])
		}
	}
	return strings.Join(words, " ")
}

// L1, P1: of drawn units that were changed the fault is check's, or else their orders may be.
func TestDrawnFaults(t *testing.T) {
	d := drawer(0x9e3779b97f4a7c15)
	codes := map[api.Errno]int{}
	for range 4000 {
		texts, _ := d.program()
		text := oneOf(&d, texts)
		if d.below(6) > 0 {
			text = d.changed(text)
		}
		_, f := check.Check(text)
		codes[f.Code]++
		if f.Code == api.OK {
			makes(t, text, headsOf(text)...)
		} else {
			fails(t, text, f)
		}
		if t.Failed() {
			return
		}
	}
	for _, code := range []api.Errno{api.OK, api.ErrForm, api.ErrKind, api.ErrName, api.ErrTwice, api.ErrRange} {
		if codes[code] < 5 {
			t.Error("rarely met", code, codes)
		}
	}
}

// L2: units that were made once do the same beside others, and again.
func TestMadeApart(t *testing.T) {
	const user = "extern int f(int a);int main(){put(f(3));return f(4);}"
	l := []string{"int f(int a){return a+1;}", "static int b=0;int f(int a){b=b+a;return b;}", "int f(int a){if(a){return f(a-1)+a;}return 0;}"}
	u := madeOf(t, user)
	for at, want := range [][2]int32{{5, 4}, {7, 3}, {10, 6}} {
		m, _ := lower.Make(l[at])
		for range 2 {
			s, trouble := three.Run([]api.Made{m, u}, 1000)
			if trouble != (api.Trouble{}) || s.End != api.RunExit || s.Value != want[0] || !slices.Equal(s.Out, want[1:]) {
				t.Error(l[at], s, trouble)
			}
		}
	}
}
