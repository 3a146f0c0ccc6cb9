package syntax_test

import (
	"math"
	"slices"
	"strconv"
	"strings"
	"testing"

	"scarfjoint/api"
	"scarfjoint/lex"
	"scarfjoint/syntax"
)

// drawer draws numbers: the same ones each time.
type drawer uint64

func (d *drawer) below(n int) int {
	*d ^= *d << 13
	*d ^= *d >> 7
	*d ^= *d << 17
	return int(uint64(*d) >> 11 % uint64(n))
}

func (d *drawer) name() string {
	return []string{"a", "b", "x", "y", "main", "inT", "L", "abcdefghijklmnop", "a_1"}[d.below(9)]
}

func (d *drawer) num(kind int) int64 {
	if d.below(2) == 0 {
		return int64(d.below(4))
	}
	if kind == api.NLong && d.below(2) == 0 {
		return math.MaxInt64 - int64(d.below(3))
	}
	return math.MaxInt32 - int64(d.below(3))
}

// some draws parts.
func (d *drawer) some(most int, part func() api.Node) []api.Node {
	var l []api.Node
	for range d.below(most + 1) {
		l = append(l, part())
	}
	return l
}

func (d *drawer) typ(more int) api.Node {
	kind := d.below(5)
	if kind > 2 && more < 1 {
		kind -= 2
	}
	switch kind {
	case 0:
		return node(api.NInt, "", 0)
	case 1:
		return node(api.NLongT, "", 0)
	case 2:
		return node(api.NNamed, d.name(), 0)
	}
	part := func() api.Node { return d.typ(more - 1) }
	return node(api.NFnT, "", int64(d.below(2)), append(d.some(3, part), part())...)
}

// begin draws a place, or, if calls may stand in it, what a call begins with.
func (d *drawer) begin(more int, calls bool) api.Node {
	n := node(api.NName, d.name(), 0)
	for range d.below(3) {
		if calls && d.below(2) == 0 {
			n = d.call(n, more)
		} else {
			n = node(api.NDot, d.name(), 0, n)
		}
	}
	return n
}

func (d *drawer) call(what api.Node, more int) api.Node {
	return node(api.NCall, "", 0, append([]api.Node{what}, d.some(2, func() api.Node { return d.expr(more - 1) })...)...)
}

func (d *drawer) expr(more int) api.Node {
	kind := d.below(16)
	if more < 1 {
		kind %= 6
	}
	part := func() api.Node { return d.expr(more - 1) }
	switch kind {
	case 0:
		return node(api.NNumber, "", d.num(api.NNumber))
	case 1:
		return node(api.NLong, "", d.num(api.NLong))
	case 2, 3:
		return node(api.NName, d.name(), 0)
	case 4:
		return node(api.NAddr, d.name(), 0)
	case 5:
		return node(api.NCount, "", 0)
	case 6:
		return node(api.NDot, d.name(), 0, part())
	case 7:
		return d.call(part(), more)
	case 8:
		return node(api.NMake, d.name(), 0, d.some(3, part)...)
	case 9:
		return node([]int{api.NToInt, api.NToLong, api.NExtra}[d.below(3)], "", 0, part())
	case 10, 11:
		return node(api.NNeg+d.below(2), "", 0, part())
	}
	ops := []int64{1, 2, 3, 5, 6, 7, 8, 9, 10, 12}
	return node(api.NOp, "", ops[d.below(10)], part(), part())
}

func (d *drawer) block(more int) api.Node {
	return node(api.NBlock, "", 0, d.some(3, func() api.Node { return d.stat(more) })...)
}

func (d *drawer) stat(more int) api.Node {
	kind := d.below(8)
	if more < 1 {
		kind = 2 + kind%6
	}
	switch kind {
	case 0:
		return node(api.NWhile, "", 0, d.expr(more-1), d.block(more-1))
	case 1:
		n := node(api.NIf, "", 0, d.expr(more-1), d.block(more-1))
		if d.below(2) == 0 {
			n.Kids = append(n.Kids, d.block(more-1))
		}
		return n
	case 2:
		return node(api.NVar, d.name(), 0, d.typ(1), d.expr(more))
	case 3, 4:
		return node(api.NSet, "", 0, d.begin(more, false), d.expr(more))
	case 5:
		return node(api.NDo, "", 0, d.call(d.begin(more, true), more))
	case 6:
		return node(api.NReturn, "", 0, d.expr(more))
	}
	return node(api.NPut, "", 0, d.expr(more))
}

func (d *drawer) decl(more int) api.Node {
	param := func() api.Node { return node(api.NParam, d.name(), 0, d.typ(1)) }
	switch d.below(7) {
	case 0:
		field := func() api.Node { return node(api.NField, d.name(), 0, d.typ(1)) }
		return node(api.NStruct, d.name(), 0, append(d.some(3, field), field())...)
	case 1:
		return node(api.NExtern, d.name(), int64(d.below(2)), append(d.some(3, param), d.typ(2))...)
	case 2:
		return node(api.NOutside, d.name(), 0, d.typ(2))
	case 3:
		kind := api.NNumber + d.below(2)
		return node(api.NGlobal, d.name(), int64(d.below(2)), d.typ(2), node(kind, "", d.num(kind)*int64(1-2*d.below(2))))
	}
	return node(api.NFun, d.name(), int64(d.below(4)), append(d.some(3, param), d.typ(1), d.block(more))...)
}

func (d *drawer) unit() api.Node {
	return unit(d.some(3, func() api.Node { return d.decl(d.below(5)) })...)
}

// kid gives a kid that may not be there; spell writes the one that is not as what no text has.
func kid(n api.Node, at int) api.Node {
	if 0 <= at && at < len(n.Kids) {
		return n.Kids[at]
	}
	return api.Node{}
}

func spellAll(l []api.Node, between string) string {
	var s []string
	for _, n := range l {
		s = append(s, spell(n))
	}
	return strings.Join(s, between)
}

// apart is an expression in parentheses.
func apart(n api.Node) string {
	return "(" + spell(n) + ")"
}

// spellNumber writes one that may be below 0.
func spellNumber(n api.Node) string {
	s := strconv.FormatInt(n.Num, 10)
	if n.Kind == api.NLong {
		s += "L"
	}
	return s
}

// row writes parameters' or types' parts.
func row(l []api.Node, many bool) string {
	s := spellAll(l, ",")
	if many && s != "" {
		s += ","
	}
	if many {
		s += "..."
	}
	return "(" + s + ")"
}

// spell writes any node at all, with as many parentheses as there can be: if no text has it, neither is this one.
func spell(n api.Node) string {
	last := len(n.Kids) - 1
	static := strings.Repeat("static ", int(n.Num&1))
	switch n.Kind {
	case api.NUnit:
		return spellAll(n.Kids, " ")
	case api.NStruct:
		return "struct " + n.Text + "{" + spellAll(n.Kids, "") + "}"
	case api.NField:
		return spell(kid(n, 0)) + " " + n.Text + ";"
	case api.NExtern:
		return "extern " + spell(kid(n, last)) + " " + n.Text + row(n.Kids[:max(0, last)], n.Num == 1) + ";"
	case api.NOutside:
		return "extern " + spell(kid(n, 0)) + " " + n.Text + ";"
	case api.NGlobal:
		return static + spell(kid(n, 0)) + " " + n.Text + "=" + spellNumber(kid(n, 1)) + ";"
	case api.NFun:
		return static + spell(kid(n, last-1)) + " " + n.Text + row(n.Kids[:max(0, last-1)], n.Num&2 == 2) + spell(kid(n, last))
	case api.NParam:
		return spell(kid(n, 0)) + " " + n.Text
	case api.NInt:
		return "int"
	case api.NLongT:
		return "long"
	case api.NNamed, api.NName:
		return n.Text
	case api.NFnT:
		return "fn" + row(n.Kids[:max(0, last)], n.Num == 1) + spell(kid(n, last))
	}
	if n.Kind >= api.NNumber {
		return spellExpr(n)
	}
	return spellStat(n)
}

func spellStat(n api.Node) string {
	switch n.Kind {
	case api.NBlock:
		return "{" + spellAll(n.Kids, " ") + "}"
	case api.NVar:
		return spell(kid(n, 0)) + " " + n.Text + "=" + spell(kid(n, 1)) + ";"
	case api.NSet:
		return spellBegin(kid(n, 0)) + "=" + spell(kid(n, 1)) + ";"
	case api.NIf:
		s := "if" + apart(kid(n, 0)) + spell(kid(n, 1))
		if len(n.Kids) > 2 {
			s += "else" + spell(kid(n, 2))
		}
		return s
	case api.NWhile:
		return "while" + apart(kid(n, 0)) + spell(kid(n, 1))
	case api.NReturn:
		return "return " + spell(kid(n, 0)) + ";"
	case api.NPut:
		return "put" + apart(kid(n, 0)) + ";"
	case api.NDo:
		return spellBegin(kid(n, 0)) + ";"
	}
	return "@"
}

// spellBegin writes what a statement begins with, which has no parentheses around a part.
func spellBegin(n api.Node) string {
	switch {
	case n.Kind == api.NDot:
		return spellBegin(kid(n, 0)) + "." + n.Text
	case n.Kind == api.NCall && len(n.Kids) > 0:
		return spellBegin(n.Kids[0]) + "(" + spellAll(n.Kids[1:], ",") + ")"
	}
	return spell(n)
}

func spellExpr(n api.Node) string {
	signs := map[int64]string{12: "==", 10: "<", 1: "+", 2: "-", 8: "|", 9: "^", 3: "*", 5: "/", 6: "%", 7: "&"}
	switch n.Kind {
	case api.NNumber, api.NLong:
		return spellNumber(n)
	case api.NDot:
		return apart(kid(n, 0)) + "." + n.Text
	case api.NCall:
		return apart(kid(n, 0)) + "(" + spellAll(n.Kids[min(1, len(n.Kids)):], ",") + ")"
	case api.NAddr:
		return "&" + n.Text
	case api.NMake:
		return n.Text + "{" + spellAll(n.Kids, ",") + "}"
	case api.NNeg:
		return "-" + apart(kid(n, 0))
	case api.NNot:
		return "!" + apart(kid(n, 0))
	case api.NToInt:
		return "int" + apart(kid(n, 0))
	case api.NToLong:
		return "long" + apart(kid(n, 0))
	case api.NOp:
		return apart(kid(n, 0)) + signs[n.Num] + apart(kid(n, 1))
	case api.NCount:
		return "count"
	case api.NExtra:
		return "extra" + apart(kid(n, 0))
	}
	return "@"
}

// F1, F2, F4, F5: drawn units are read as they are spelt, and printed with no blank and no parentheses too many.
func TestDrawnUnits(t *testing.T) {
	d := drawer(0x2545f4914f6cdd1d)
	met := map[int]int{}
	for range 6000 {
		n := d.unit()
		spelt := spell(n)
		if len(spelt) > api.MaxText || deep(n) > api.MaxDepth || nodes(n) > api.MaxNodes {
			continue
		}
		if m := parse(t, spelt); !same(m, n) {
			t.Fatalf("%s: %s, not %s", spelt, show(m), show(n))
		}
		text, e := syntax.Print(n)
		if e != api.OK {
			t.Fatalf("%s: %v", spelt, e)
		}
		if m := parse(t, text); !same(m, n) {
			t.Fatalf("%s: %s, not %s", text, show(m), show(n))
		}
		tokens := texts(text)
		if strings.Join(tokens, " ") != text {
			t.Fatalf("%q: other blanks", text)
		}
		needed(t, n, tokens)
		for _, at := range all(&n) {
			met[at.Kind]++
		}
	}
	for kind := api.NUnit; kind <= api.NExtra; kind++ {
		if met[kind] < 200 {
			t.Error("rarely drawn", kinds[kind], met[kind])
		}
	}
}

// texts tells the texts of a text's tokens, a long with its L.
func texts(text string) []string {
	tokens, _ := lex.Scan(text)
	var l []string
	for _, token := range tokens {
		if token.Kind == api.KLong {
			token.Text += "L"
		}
		l = append(l, token.Text)
	}
	return l
}

// needed holds that without any one pair of parentheses a node's text has another node, or none.
func needed(t *testing.T, n api.Node, tokens []string) {
	t.Helper()
	var open []int
	for at, token := range tokens {
		switch token {
		case "(":
			open = append(open, at)
		case ")":
			from := open[len(open)-1]
			open = open[:len(open)-1]
			less := strings.Join(slices.Concat(tokens[:from], tokens[from+1:at], tokens[at+1:]), " ")
			if m, f := syntax.Parse(less); f.Code == api.OK && same(m, n) {
				t.Fatalf("%s: is the same as %s", less, strings.Join(tokens, " "))
			}
		}
	}
}

// answers says whether Parse answers a node.
func answers(n api.Node) bool {
	m, f := syntax.Parse(spell(n))
	return f.Code == api.OK && same(m, n)
}

// copied is a node of its own.
func copied(n api.Node) api.Node {
	kids := make([]api.Node, len(n.Kids))
	for at, k := range n.Kids {
		kids[at] = copied(k)
	}
	n.Kids = kids
	return n
}

// all gives where each node of a node is.
func all(n *api.Node) []*api.Node {
	l := []*api.Node{n}
	for at := range n.Kids {
		l = append(l, all(&n.Kids[at])...)
	}
	return l
}

var (
	otherTexts = []string{"", "x", "int", "if", "1", "a b", "x()", "_", "é", "abcdefghijklmnopq"}
	otherNums  = []int64{-1, 0, 1, 2, 3, 4, 5, 9, 10, 11, 12, 13, math.MaxInt32, math.MaxInt32 + 1, -math.MaxInt32, math.MinInt32, math.MaxInt64, -math.MaxInt64, math.MinInt64}
	otherKids  = []api.Node{{}, whole, one, name, block, field, param, dot, call, node(api.NReturn, "", 0, one), node(api.NOutside, "x", 0, whole), node(api.NUnit, "", 0)}
)

// changes has what a node is with one thing of it changed.
func changes(n api.Node) []api.Node {
	var l []api.Node
	for kind := -1; kind <= 35; kind++ {
		l = append(l, api.Node{Kind: kind, Text: n.Text, Num: n.Num, Kids: n.Kids})
	}
	for _, text := range otherTexts {
		l = append(l, api.Node{Kind: n.Kind, Text: text, Num: n.Num, Kids: n.Kids})
	}
	for _, num := range otherNums {
		l = append(l, api.Node{Kind: n.Kind, Text: n.Text, Num: num, Kids: n.Kids})
	}
	for at := range n.Kids {
		l = append(l, api.Node{Kind: n.Kind, Text: n.Text, Num: n.Num, Kids: slices.Concat(n.Kids[:at], n.Kids[at+1:])})
	}
	for _, k := range otherKids {
		for at := range len(n.Kids) + 1 {
			l = append(l, api.Node{Kind: n.Kind, Text: n.Text, Num: n.Num, Kids: slices.Concat(n.Kids[:at], []api.Node{k}, n.Kids[at:])})
		}
	}
	return append(l, otherKids...)
}

// F4: units with any one thing of any one node changed are printed just if Parse answers them.
func TestChangedUnits(t *testing.T) {
	met := map[api.Errno]int{}
	for _, text := range units {
		n := parse(t, text)
		for _, at := range all(&n) {
			kept := *at
			for _, other := range changes(kept) {
				*at = other
				changedUnit(t, n, met)
			}
			*at = kept
		}
	}
	if met[api.OK] < 500 || met[api.ErrForm] < 5000 {
		t.Error("rarely met", met)
	}
}

func changedUnit(t *testing.T, n api.Node, met map[api.Errno]int) {
	t.Helper()
	text, e := syntax.Print(n)
	met[e]++
	if (e == api.OK) != answers(n) || e != api.OK && (e != api.ErrForm || text != "") {
		t.Fatalf("%s: %q %v", show(n), text, e)
	}
	if e != api.OK {
		return
	}
	if m := parse(t, text); !same(m, n) {
		t.Fatalf("%s: %s, not %s", text, show(m), show(n))
	}
}

// F4: drawn units with several nodes changed.
func TestDrawnStrangeUnits(t *testing.T) {
	d := drawer(0x9e3779b97f4a7c15)
	met := map[api.Errno]int{}
	for range 20000 {
		n := d.unit()
		if len(spell(n)) > 1000 || deep(n) > 12 || nodes(n) > 300 {
			continue
		}
		for range 1 + d.below(2) {
			at := all(&n)
			l := changes(*at[d.below(len(at))])
			*at[d.below(len(at))] = copied(l[d.below(len(l))])
		}
		if len(spell(n)) > 2000 || deep(n) > api.MaxDepth || nodes(n) > api.MaxNodes {
			continue
		}
		changedUnit(t, n, met)
	}
	if met[api.OK] < 500 || met[api.ErrForm] < 5000 {
		t.Error("rarely met", met)
	}
}

// F3: drawn units with tokens taken away, put in, changed, or cut off have their fault where the grammar has it.
func TestDrawnTexts(t *testing.T) {
	d := drawer(0x853c49e6748fea9b)
	b := newBeginnings()
	met := map[bool]int{}
	for range 6000 {
		n := d.unit()
		if len(spell(n)) > 400 {
			continue
		}
		tokens := texts(spell(n))
		for range d.below(3) {
			at := d.below(len(tokens) + 1)
			rest := min(at+d.below(2), len(tokens))
			tokens = slices.Concat(tokens[:at], []string{anyTokens[d.below(len(anyTokens))]}[:d.below(2)], tokens[rest:])
		}
		if d.below(4) == 0 {
			tokens = tokens[:d.below(len(tokens)+1)]
		}
		text := strings.Join(tokens, []string{" ", "\n", "  "}[d.below(3)])
		m, f := syntax.Parse(text)
		want := b.fault(text)
		if f.Code == api.ErrSize && want.Code == api.OK {
			continue
		}
		if f != want || f.Code != api.OK && !same(m, api.Node{}) {
			t.Fatalf("%q: %v, not %v", text, f, want)
		}
		met[f.Code == api.OK]++
	}
	if met[true] < 500 || met[false] < 1000 {
		t.Error("rarely met", met)
	}
}

// level tells how late an operator is taken.
func level(sign string) int {
	return slices.IndexFunc([]string{"== <", "+ - | ^", "* / % &"}, func(signs string) bool {
		return slices.Contains(strings.Fields(signs), sign)
	})
}

// split makes a row's node: it is cut at the last one of the operators that are taken last.
func split(parts, signs []string) string {
	if len(signs) == 0 {
		return "name:" + parts[0]
	}
	cut := 0
	for at, sign := range signs {
		if level(sign) <= level(signs[cut]) {
			cut = at
		}
	}
	nums := map[string]string{"==": "12", "<": "10", "+": "1", "-": "2", "|": "8", "^": "9", "*": "3", "/": "5", "%": "6", "&": "7"}
	return "op/" + nums[signs[cut]] + "[" + split(parts[:cut+1], signs[:cut]) + " " + split(parts[cut+1:], signs[cut+1:]) + "]"
}

// F2: drawn rows of operators without parentheses, == and < at most once.
func TestDrawnRows(t *testing.T) {
	d := drawer(0xda3e39cb94b95bdb)
	signs := strings.Fields("+ - | ^ * / % &")
	for range 4000 {
		parts := []string{"a"}
		var between []string
		for range d.below(9) {
			parts = append(parts, d.name())
			between = append(between, signs[d.below(8)])
		}
		if len(between) > 0 && d.below(2) == 0 {
			between[d.below(len(between))] = []string{"==", "<"}[d.below(2)]
		}
		text := parts[0]
		for at, sign := range between {
			text += sign + parts[at+1]
		}
		if n := expr(t, text); show(n) != split(parts, between) {
			t.Fatalf("%s: %s", text, show(n))
		}
	}
}
