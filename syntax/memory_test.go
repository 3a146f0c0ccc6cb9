package syntax_test

import (
	"strings"
	"testing"
	"unsafe"

	"scarfjoint/api"
	"scarfjoint/syntax"
)

// P1: nodes without an end, and those with more nodes than could be counted, are refused.
func TestNodesWithoutEnd(t *testing.T) {
	for _, kids := range []int{1, 2, 3, 700, 5000} {
		for kind := range 36 {
			l := make([]api.Node, kids)
			for at := range l {
				l[at] = api.Node{Kind: kind, Kids: l}
			}
			// Such a node can't be shown.
			for _, n := range []api.Node{l[0], {Kind: api.NUnit, Kids: l}} {
				if text, e := syntax.Print(n); text != "" || e != api.ErrSize {
					t.Errorf("%d of kind %d: %.60q %v", kids, kind, text, e)
				}
			}
		}
	}
	// Many at each level, though none of them is too deep.
	n := one
	for range 15 {
		n = node(api.NCall, "", 0, n, n, n, n, n, n, n, n)
	}
	refuses(t, n, api.ErrSize)
	refuses(t, unit(make([]api.Node, 1<<22)...), api.ErrSize)
	refuses(t, unit(node(api.NOutside, strings.Repeat("x", 1<<24), 0, whole)), api.ErrForm)
}

// P1: texts that nest as deep as a text can, and texts of any tokens, end with an answer.
func TestDeepTexts(t *testing.T) {
	for _, ahead := range []string{"", "int f(){", "int f(){return ", "int f(){x=", "extern ", "int f("} {
		for _, part := range []string{"(", "-", "!", "x(", "x{", "int(", "-(", "1+(", "fn(", "fn()", "x.", "f(1,", "if(1){", "while(x{", "extra(", "{", "a=", "&", "...", "x x=1;"} {
			text := ahead + strings.Repeat(part, (api.MaxText-len(ahead))/len(part))
			if n, f := syntax.Parse(text); f.Code == api.OK || !same(n, api.Node{}) {
				t.Errorf("%.60q: %v", text, f)
			}
		}
	}
	parens := strings.Repeat("(", 1990)
	fails(t, "int f(){x="+parens+";}", api.ErrForm, 2000)
}

// lists goes through all places of all lists of a node, those behind a list's length among them.
func lists(n *api.Node, yield func(*api.Node)) {
	for at := range n.Kids {
		lists(&n.Kids[at], yield)
	}
	behind := n.Kids[:cap(n.Kids)]
	for at := range behind {
		yield(&behind[at])
	}
}

const longText = "struct s{int a;long b;}extern int g(int a,fn(int,s,...)long b,...);extern s x;static long y=-7L;s f(s a,int b){int c=1+2*3-4;a.b.c=g(1,2,3)(4).d;if(c==b){g();}else{put(c);}while(!c){return s{a,-b,&f};}}"

// P3: no two lists of an answer share memory, nor do lists of two answers.
func TestListsShareNothing(t *testing.T) {
	a, b := parse(t, longText), parse(t, longText)
	seen := map[*api.Node]int{}
	for _, n := range []*api.Node{&a, &b} {
		lists(n, func(at *api.Node) {
			if seen[at]++; seen[at] > 1 {
				t.Errorf("%s is in two lists", show(*at))
			}
		})
	}
	if len(seen) < 100 {
		t.Error(len(seen))
	}
}

// P3: what is answered shares no bytes with what was handed in.
func TestTextsShareNothing(t *testing.T) {
	text := strings.Clone(longText)
	n := parse(t, text)
	from := uintptr(unsafe.Pointer(unsafe.StringData(text)))
	for _, at := range all(&n) {
		byte := uintptr(unsafe.Pointer(unsafe.StringData(at.Text)))
		if at.Text != "" && from <= byte && byte < from+uintptr(len(text)) {
			t.Errorf("%s shares its text", show(*at))
		}
	}
	printed, _ := syntax.Print(n)
	from = uintptr(unsafe.Pointer(unsafe.StringData(printed)))
	for _, at := range all(&n) {
		byte := uintptr(unsafe.Pointer(unsafe.StringData(at.Text)))
		if at.Text != "" && from <= byte && byte < from+uintptr(len(printed)) {
			t.Errorf("%s shares its text", show(*at))
		}
	}
}

// P3: Print changes nothing, and reads and writes nothing behind a list's length.
func TestPrintLeavesNodes(t *testing.T) {
	n := parse(t, longText)
	want, _ := syntax.Print(n)
	strange := api.Node{Kind: 99, Text: "behind", Num: -9}
	n = withRoom(n, strange)
	kept := copied(n)
	if text, e := syntax.Print(n); text != want || e != api.OK {
		t.Error(text, e)
	}
	if !same(n, kept) {
		t.Error(show(n))
	}
	for _, at := range all(&n) {
		for _, k := range at.Kids[len(at.Kids):cap(at.Kids)] {
			if !same(k, strange) {
				t.Error(show(k))
			}
		}
	}
}

// withRoom is a node whose lists have something behind their length.
func withRoom(n, behind api.Node) api.Node {
	var kids []api.Node
	for _, k := range n.Kids {
		kids = append(kids, withRoom(k, behind))
	}
	length := len(kids)
	n.Kids = append(kids, behind, behind)
	n.Kids = n.Kids[: length : length+2]
	return n
}

// P3: an answer hangs on the text alone.
func TestSameEachTime(t *testing.T) {
	for _, text := range append([]string{longText, "int x", "int f(){x;}"}, units...) {
		n, f := syntax.Parse(text)
		for range 3 {
			m, g := syntax.Parse(text)
			if f != g || !same(n, m) {
				t.Errorf("%q: %v %v", text, f, g)
			}
		}
	}
}
