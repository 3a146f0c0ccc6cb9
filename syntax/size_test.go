package syntax_test

import (
	"strings"
	"testing"

	"scarfjoint/api"
	"scarfjoint/syntax"
)

// deep tells how deep a node is, nodes how many it has.
func deep(n api.Node) int {
	most := 0
	for _, kid := range n.Kids {
		most = max(most, deep(kid))
	}
	return most + 1
}

func nodes(n api.Node) int {
	all := 1
	for _, kid := range n.Kids {
		all += nodes(kid)
	}
	return all
}

// F3, F4: nodes of MaxDepth and one deeper, by all that nests.
func TestDepth(t *testing.T) {
	for name, of := range map[string]struct {
		text  func(times int) string
		times int
	}{
		"-":       {func(k int) string { return "int f(){return " + strings.Repeat("-", k) + "x;}" }, 11},
		"!":       {func(k int) string { return "int f(){return " + strings.Repeat("!", k) + "1;}" }, 11},
		".":       {func(k int) string { return "int f(){return x" + strings.Repeat(".a", k) + ";}" }, 11},
		"()":      {func(k int) string { return "int f(){x" + strings.Repeat("()", k) + ";}" }, 11},
		"+ ahead": {func(k int) string { return "int f(){return x" + strings.Repeat("+x", k) + ";}" }, 11},
		"+ behind": {func(k int) string {
			return "int f(){return " + strings.Repeat("x+(", k) + "x" + strings.Repeat(")", k) + ";}"
		}, 11},
		"int()": {func(k int) string {
			return "int f(){put(" + strings.Repeat("int(", k) + "x" + strings.Repeat(")", k) + ");}"
		}, 11},
		"extra()": {func(k int) string {
			return "int f(){x=" + strings.Repeat("extra(", k) + "x" + strings.Repeat(")", k) + ";}"
		}, 11},
		"f()": {func(k int) string {
			return "int f(){return " + strings.Repeat("f(", k) + "x" + strings.Repeat(")", k) + ";}"
		}, 11},
		"s{}": {func(k int) string {
			return "int f(){return " + strings.Repeat("s{", k) + "x" + strings.Repeat("}", k) + ";}"
		}, 11},
		"if": {func(k int) string { return "int f(){" + strings.Repeat("if(x){", k) + strings.Repeat("}", k) + "}" }, 6},
		"else": {func(k int) string {
			return "int f(){" + strings.Repeat("if(x){}else{", k) + strings.Repeat("}", k) + "}"
		}, 6},
		"while": {func(k int) string { return "int f(){" + strings.Repeat("while(x){", k) + strings.Repeat("}", k) + "}" }, 6},
		"fn()":  {func(k int) string { return "extern " + strings.Repeat("fn()", k) + "int x;" }, 13},
		"fn(fn": {func(k int) string {
			return "extern " + strings.Repeat("fn(", k) + "int" + strings.Repeat(")int", k) + " x;"
		}, 13},
	} {
		n := parse(t, of.text(of.times))
		if d := deep(n); d > api.MaxDepth || d < api.MaxDepth-1 {
			t.Fatal(name, d)
		}
		text, e := syntax.Print(n)
		if e != api.OK {
			t.Error(name, e)
		}
		if again := parse(t, text); !same(again, n) {
			t.Error(name, text)
		}
		for more := 1; more < 4; more++ {
			fails(t, of.text(of.times+more), api.ErrSize, 0)
		}
	}
	// Parentheses have no node: they make none deeper.
	parse(t, "int f(){return "+strings.Repeat("(", 1900)+"x"+strings.Repeat(")", 1900)+";}")
	parse(t, "int f(){return "+strings.Repeat("(", 900)+strings.Repeat("-", 11)+"x"+strings.Repeat(")", 900)+";}")
}

// F4: nodes of MaxDepth and deeper in Print; that it is too deep is told ahead of what else is wrong.
func TestPrintDepth(t *testing.T) {
	n, strange := name, api.Node{Kind: 77}
	for range 11 {
		n, strange = node(api.NNot, "", 0, n), node(api.NNot, "", 0, strange)
	}
	prints(t, returned(n), "int f ( ) { return "+strings.Repeat("! ", 11)+"x ; }")
	refuses(t, returned(node(api.NNot, "", 0, n)), api.ErrSize)
	refuses(t, returned(strange), api.ErrForm)
	refuses(t, returned(node(api.NNot, "", 0, strange)), api.ErrSize)
	for range 1 << 16 {
		n = node(api.NNot, "", 0, n)
	}
	refuses(t, n, api.ErrSize)
	refuses(t, unit(n), api.ErrSize)
}

// manyArguments is a text of so many nodes; 7 of them are not arguments.
func manyArguments(all int) string {
	return "int f(){return g(1" + strings.Repeat(",1", all-8) + ");}"
}

// F3, F4: nodes of MaxNodes and one more.
func TestNodes(t *testing.T) {
	n := parse(t, manyArguments(api.MaxNodes))
	if nodes(n) != api.MaxNodes {
		t.Fatal(nodes(n))
	}
	prints(t, n, "int f ( ) { return g ( 1"+strings.Repeat(" , 1", api.MaxNodes-8)+" ) ; }")
	fails(t, manyArguments(api.MaxNodes+1), api.ErrSize, 0)
	fails(t, manyArguments(1900), api.ErrSize, 0)
	call := &n.Kids[0].Kids[1].Kids[0].Kids[0]
	call.Kids = append(call.Kids, one)
	refuses(t, n, api.ErrSize)
	call.Kids[5] = api.Node{}
	refuses(t, n, api.ErrSize)
	call.Kids = call.Kids[:len(call.Kids)-1]
	refuses(t, n, api.ErrForm)

	// Many declarations, each of few nodes: the unit's own node is one of all.
	text := strings.Repeat("x y=1;", 233)
	if n := parse(t, text); nodes(n) != 700 {
		t.Error(nodes(n))
	}
	fails(t, text+"x y=1;", api.ErrSize, 0)
	fails(t, text+"extern x y;", api.ErrSize, 0)
}

// F3: a wrong token is told ahead of what is too deep or too much.
func TestFormAheadOfSize(t *testing.T) {
	for _, text := range []string{"int f(){return " + strings.Repeat("-", 100) + "x", manyArguments(api.MaxNodes + 50), "int f(){" + strings.Repeat("if(x){", 50)} {
		fails(t, text+" else", api.ErrForm, len(text)+1)
	}
	text := "int f(){return " + strings.Repeat("-", 100)
	fails(t, text, api.ErrForm, len(text))
}

// longUnit makes a unit of 200 declarations whose text has so many bytes: extern x NAME ; has 11 beside the name, and a blank ahead.
func longUnit(bytes int) api.Node {
	n := unit()
	letters := bytes + 1 - 200*12
	for at := range 200 {
		length := (letters + at) / 200
		n.Kids = append(n.Kids, node(api.NOutside, strings.Repeat("q", length), 0, node(api.NNamed, "x", 0)))
	}
	return n
}

// F4: texts of MaxText bytes and one more; that there is no such unit is told ahead of that.
func TestPrintLongTexts(t *testing.T) {
	for _, bytes := range []int{3000, api.MaxText - 1, api.MaxText} {
		n := longUnit(bytes)
		text, e := syntax.Print(n)
		if len(text) != bytes || e != api.OK {
			t.Fatal(bytes, len(text), e)
		}
		if again := parse(t, text); !same(again, n) {
			t.Error(bytes)
		}
	}
	for _, bytes := range []int{api.MaxText + 1, api.MaxText + 2, 5000} {
		n := longUnit(bytes)
		refuses(t, n, api.ErrSize)
		n.Kids[199].Num = 1
		refuses(t, n, api.ErrForm)
	}
	// A text that Parse takes may be too long with its blanks.
	n := parse(t, "int f(){return g("+strings.Repeat("x{},", 600)+"1);}")
	refuses(t, n, api.ErrSize)
}
