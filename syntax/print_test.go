package syntax_test

import (
	"math"
	"testing"

	"scarfjoint/api"
	"scarfjoint/syntax"
)

// prints holds what Print answers against a text; F5: Parse of it is the same node.
func prints(t *testing.T, n api.Node, want string) {
	t.Helper()
	text, e := syntax.Print(n)
	if text != want || e != api.OK {
		t.Errorf("%.300s: %.300q %v, not %.300q", show(n), text, e, want)
		return
	}
	if again := parse(t, text); !same(again, n) {
		t.Errorf("%.300q: %.300s, not %.300s", text, show(again), show(n))
	}
}

// refuses holds what Print answers against an error; P2: there is no text beside it.
func refuses(t *testing.T, n api.Node, want api.Errno) {
	t.Helper()
	if text, e := syntax.Print(n); text != "" || e != want {
		t.Errorf("%.300s: %.300q %v, not %v", show(n), text, e, want)
	}
}

// F4: texts that are as Print writes them, with all rows of F1 and of F2.
func TestPrintAgain(t *testing.T) {
	for _, text := range units {
		prints(t, parse(t, text), text)
	}
	for _, text := range []string{
		"", "int main ( ) { return ( 1 + 2 ) * - 3 ; }",
		"int x = 0 ;", "int x = - 2147483647 ;", "int x = 2147483647 ;", "static long x = - 9223372036854775807L ;", "long x = 0L ;",
		"fn ( ) fn ( ... ) s x = 1L ;",
		"extern fn ( fn ( ... ) int , s , ... ) fn ( ) s f ( fn ( ) int a , ... ) ;",
		"static fn ( ... ) int f ( fn ( int ) long a , s b ) { }",
		"int f ( ) { if ( 1 ) { if ( 2 ) { } else { } } if ( 1 ) { if ( 2 ) { } } else { } }",
	} {
		prints(t, parse(t, text), text)
	}
	prints(t, parse(t, "int x=-0;"), "int x = 0 ;")
	prints(t, parse(t, "int main(){return (1+2)*-3;}"), "int main ( ) { return ( 1 + 2 ) * - 3 ; }")
}

// F4: just the parentheses that it takes.
func TestParentheses(t *testing.T) {
	for text, want := range map[string]string{
		"((a))":               "a",
		"(a)+(b)":             "a + b",
		"(a+b)+c":             "a + b + c",
		"a+(b+c)":             "a + ( b + c )",
		"(a-b)|(c^d)":         "a - b | ( c ^ d )",
		"(a*b)*c":             "a * b * c",
		"a*(b*c)":             "a * ( b * c )",
		"a/(b%c)&d":           "a / ( b % c ) & d",
		"(a*b)+(c*d)":         "a * b + c * d",
		"(a+b)*(c-d)":         "( a + b ) * ( c - d )",
		"(a+b)==(c-d)":        "a + b == c - d",
		"(a*b)<(c/d)":         "a * b < c / d",
		"(a==b)==c":           "( a == b ) == c",
		"a<(b<c)":             "a < ( b < c )",
		"(a==b)<(c<d)":        "( a == b ) < ( c < d )",
		"(a==b)+c":            "( a == b ) + c",
		"a*(b<c)":             "a * ( b < c )",
		"-(a)":                "- a",
		"-(-(!(a)))":          "- - ! a",
		"-(a+b)":              "- ( a + b )",
		"!(a*b)":              "! ( a * b )",
		"!(a==b)":             "! ( a == b )",
		"(-a)*(-b)":           "- a * - b",
		"(!a)+(-b)":           "! a + - b",
		"(-a)<(!b)":           "- a < ! b",
		"(-a).b":              "( - a ) . b",
		"(!a)(b)":             "( ! a ) ( b )",
		"-(a.b)":              "- a . b",
		"-(a(b))":             "- a ( b )",
		"(a+b).c":             "( a + b ) . c",
		"(a*b)(c)":            "( a * b ) ( c )",
		"(a<b).c":             "( a < b ) . c",
		"((a.b)(c)).d":        "a . b ( c ) . d",
		"(1).a(2L)":           "1 . a ( 2L )",
		"(&a)(b)":             "& a ( b )",
		"(a)&(&b)":            "a & & b",
		"(a{b}).c":            "a { b } . c",
		"(int(a)).b":          "int ( a ) . b",
		"(long((a+b)))(c)":    "long ( a + b ) ( c )",
		"(count)(1)":          "count ( 1 )",
		"(extra((1))).a":      "extra ( 1 ) . a",
		"f((a),(b==c),(d+e))": "f ( a , b == c , d + e )",
		"s{(a),(b==c),-(d)}":  "s { a , b == c , - d }",
		"extra((a<b))":        "extra ( a < b )",
		"int((a==b))":         "int ( a == b )",
		"(f()+(1))*((2))":     "( f ( ) + 1 ) * 2",
	} {
		n := api.Node{Kind: api.NReturn, Kids: []api.Node{expr(t, text)}}
		prints(t, inFunction(n), "int f ( ) { return "+want+" ; }")
	}
	prints(t, parse(t, "int f(){x=(1);f((1));if((x)){}while((x==y)){}put((x));int z=(x);}"), "int f ( ) { x = 1 ; f ( 1 ) ; if ( x ) { } while ( x == y ) { } put ( x ) ; int z = x ; }")
}

// node makes one.
func node(kind int, text string, num int64, kids ...api.Node) api.Node {
	return api.Node{Kind: kind, Text: text, Num: num, Kids: kids}
}

// unit makes one of declarations, inFunction one that has these statements, returned one that returns this expression.
func unit(decls ...api.Node) api.Node {
	return node(api.NUnit, "", 0, decls...)
}

func inFunction(stats ...api.Node) api.Node {
	return unit(node(api.NFun, "f", 0, node(api.NInt, "", 0), node(api.NBlock, "", 0, stats...)))
}

func returned(n api.Node) api.Node {
	return inFunction(node(api.NReturn, "", 0, n))
}

// Nodes that others are made of here.
var (
	whole = node(api.NInt, "", 0)
	one   = node(api.NNumber, "", 1)
	name  = node(api.NName, "x", 0)
	block = node(api.NBlock, "", 0)
	field = node(api.NField, "a", 0, whole)
	param = node(api.NParam, "a", 0, whole)
	dot   = node(api.NDot, "a", 0, name)
	call  = node(api.NCall, "", 0, name)
)

// F4: nodes that no text has, by hand: what is no unit at all, and declarations.
func TestStrangeDeclarations(t *testing.T) {
	for _, n := range []api.Node{
		{}, {Kind: -1}, {Kind: 35}, {Kind: math.MaxInt}, {Kind: math.MinInt},
		block, name, one, whole, field, param, call,
		node(api.NUnit, "x", 0), node(api.NUnit, "", 1), node(api.NUnit, "", -1),
		unit(unit()), unit(block), unit(field), unit(param), unit(whole), unit(one), unit(call), unit(api.Node{}),
		unit(node(api.NStruct, "s", 0)), unit(node(api.NStruct, "", 0, field)), unit(node(api.NStruct, "int", 0, field)), unit(node(api.NStruct, "s", 1, field)),
		unit(node(api.NStruct, "s", 0, whole)), unit(node(api.NStruct, "s", 0, field, param)),
		unit(node(api.NStruct, "s", 0, node(api.NField, "", 0, whole))), unit(node(api.NStruct, "s", 0, node(api.NField, "a", 1, whole))),
		unit(node(api.NStruct, "s", 0, node(api.NField, "a", 0))), unit(node(api.NStruct, "s", 0, node(api.NField, "a", 0, whole, whole))), unit(node(api.NStruct, "s", 0, node(api.NField, "a", 0, name))),
		unit(node(api.NOutside, "x", 0)), unit(node(api.NOutside, "", 0, whole)), unit(node(api.NOutside, "x", 1, whole)), unit(node(api.NOutside, "x", 0, whole, whole)), unit(node(api.NOutside, "x", 0, one)),
		unit(node(api.NOutside, "while", 0, whole)), unit(node(api.NOutside, "a b", 0, whole)), unit(node(api.NOutside, "1", 0, whole)), unit(node(api.NOutside, "_", 0, whole)), unit(node(api.NOutside, "abcdefghijklmnopq", 0, whole)), unit(node(api.NOutside, "x;int y", 0, whole)),
		unit(node(api.NExtern, "f", 0)), unit(node(api.NExtern, "", 0, whole)), unit(node(api.NExtern, "f", 2, whole)), unit(node(api.NExtern, "f", -1, whole)), unit(node(api.NExtern, "f", 0, param)), unit(node(api.NExtern, "f", 0, whole, param)), unit(node(api.NExtern, "f", 0, whole, whole)), unit(node(api.NExtern, "f", 0, field, whole)), unit(node(api.NExtern, "f", 0, whole, block)),
		unit(node(api.NExtern, "f", 0, node(api.NParam, "if", 0, whole), whole)), unit(node(api.NExtern, "f", 0, node(api.NParam, "a", 1, whole), whole)), unit(node(api.NExtern, "f", 0, node(api.NParam, "a", 0), whole)),
		unit(node(api.NGlobal, "x", 0, whole)), unit(node(api.NGlobal, "x", 0)), unit(node(api.NGlobal, "", 0, whole, one)), unit(node(api.NGlobal, "x", 2, whole, one)), unit(node(api.NGlobal, "x", -1, whole, one)), unit(node(api.NGlobal, "x", 0, whole, one, one)), unit(node(api.NGlobal, "x", 0, one, whole)), unit(node(api.NGlobal, "x", 0, whole, name)), unit(node(api.NGlobal, "x", 0, whole, node(api.NNeg, "", 0, one))),
		unit(node(api.NGlobal, "x", 0, whole, node(api.NNumber, "", math.MaxInt32+1))), unit(node(api.NGlobal, "x", 0, whole, node(api.NNumber, "", math.MinInt32))), unit(node(api.NGlobal, "x", 0, whole, node(api.NNumber, "", math.MinInt64))), unit(node(api.NGlobal, "x", 0, whole, node(api.NLong, "", math.MinInt64))), unit(node(api.NGlobal, "x", 0, whole, node(api.NNumber, "1", 1))), unit(node(api.NGlobal, "x", 0, whole, node(api.NNumber, "", 1, one))),
		unit(node(api.NFun, "f", 0, whole)), unit(node(api.NFun, "f", 0, block)), unit(node(api.NFun, "f", 0)), unit(node(api.NFun, "", 0, whole, block)), unit(node(api.NFun, "f", 4, whole, block)), unit(node(api.NFun, "f", -1, whole, block)), unit(node(api.NFun, "f", 0, block, whole)), unit(node(api.NFun, "f", 0, param, block)), unit(node(api.NFun, "f", 0, whole, param, block)), unit(node(api.NFun, "f", 0, whole, whole, block)), unit(node(api.NFun, "f", 0, whole, block, block)), unit(node(api.NFun, "f", 0, whole, one)),
	} {
		refuses(t, n, api.ErrForm)
	}
}

// F4: nodes that no text has, by hand: types.
func TestStrangeTypes(t *testing.T) {
	for _, n := range []api.Node{
		{}, one, name, block, param, field, call,
		node(api.NInt, "int", 0), node(api.NInt, "", 1), node(api.NInt, "", 0, whole), node(api.NLongT, "x", 0), node(api.NLongT, "", -1), node(api.NLongT, "", 0, whole),
		node(api.NNamed, "", 0), node(api.NNamed, "long", 0), node(api.NNamed, "s", 1), node(api.NNamed, "s", 0, whole), node(api.NNamed, "s t", 0), node(api.NNamed, "fn()int", 0),
		node(api.NFnT, "", 0), node(api.NFnT, "f", 0, whole), node(api.NFnT, "", 2, whole), node(api.NFnT, "", -1, whole), node(api.NFnT, "", 0, param), node(api.NFnT, "", 0, param, whole), node(api.NFnT, "", 0, whole, name),
	} {
		refuses(t, unit(node(api.NOutside, "x", 0, n)), api.ErrForm)
		refuses(t, unit(node(api.NFun, "f", 0, n, block)), api.ErrForm)
		refuses(t, unit(node(api.NOutside, "x", 0, node(api.NFnT, "", 0, n, whole))), api.ErrForm)
		refuses(t, inFunction(node(api.NVar, "x", 0, n, one)), api.ErrForm)
	}
}

// F4: nodes that no text has, by hand: statements.
func TestStrangeStatements(t *testing.T) {
	for _, n := range []api.Node{
		{}, {Kind: 99}, block, one, name, dot, call, whole, param, field, node(api.NOutside, "x", 0, whole),
		node(api.NVar, "", 0, whole, one), node(api.NVar, "int", 0, whole, one), node(api.NVar, "x", 1, whole, one), node(api.NVar, "x", 0, whole), node(api.NVar, "x", 0, whole, one, one), node(api.NVar, "x", 0, one, one), node(api.NVar, "x", 0, whole, whole), node(api.NVar, "x", 0, whole, block),
		node(api.NSet, "x", 0, name, one), node(api.NSet, "", 1, name, one), node(api.NSet, "", 0, name), node(api.NSet, "", 0, name, one, one), node(api.NSet, "", 0, one, one), node(api.NSet, "", 0, call, one), node(api.NSet, "", 0, name, block), node(api.NSet, "", 0, node(api.NDot, "a", 0), one), node(api.NSet, "", 0, node(api.NDot, "a", 0, call), one), node(api.NSet, "", 0, node(api.NDot, "a", 0, one), one), node(api.NSet, "", 0, node(api.NAddr, "x", 0), one), node(api.NSet, "", 0, node(api.NDot, "a", 0, name, name), one),
		node(api.NDo, "", 0), node(api.NDo, "f", 0, call), node(api.NDo, "", 1, call), node(api.NDo, "", 0, call, call), node(api.NDo, "", 0, name), node(api.NDo, "", 0, dot), node(api.NDo, "", 0, one), node(api.NDo, "", 0, node(api.NDot, "a", 0, call)), node(api.NDo, "", 0, node(api.NCall, "", 0)), node(api.NDo, "", 0, node(api.NCall, "", 0, one)), node(api.NDo, "", 0, node(api.NCall, "", 0, node(api.NNeg, "", 0, name))), node(api.NDo, "", 0, node(api.NCall, "", 0, node(api.NMake, "s", 0))), node(api.NDo, "", 0, node(api.NCall, "", 0, node(api.NDot, "a", 0, node(api.NAddr, "f", 0)))), node(api.NDo, "", 0, node(api.NCall, "", 0, node(api.NCall, "", 0, node(api.NCount, "", 0)))),
		node(api.NIf, "", 0, one), node(api.NIf, "", 0), node(api.NIf, "x", 0, one, block), node(api.NIf, "", 1, one, block), node(api.NIf, "", 0, one, block, block, block), node(api.NIf, "", 0, block, block), node(api.NIf, "", 0, one, one), node(api.NIf, "", 0, one, block, one), node(api.NIf, "", 0, one, block, node(api.NIf, "", 0, one, block)),
		node(api.NWhile, "", 0, one), node(api.NWhile, "x", 0, one, block), node(api.NWhile, "", 1, one, block), node(api.NWhile, "", 0, one, block, block), node(api.NWhile, "", 0, block, one),
		node(api.NReturn, "", 0), node(api.NReturn, "x", 0, one), node(api.NReturn, "", 1, one), node(api.NReturn, "", 0, one, one), node(api.NReturn, "", 0, whole), node(api.NReturn, "", 0, block),
		node(api.NPut, "", 0), node(api.NPut, "x", 0, one), node(api.NPut, "", 1, one), node(api.NPut, "", 0, one, one), node(api.NPut, "", 0, whole),
	} {
		refuses(t, inFunction(n), api.ErrForm)
		refuses(t, inFunction(node(api.NIf, "", 0, one, node(api.NBlock, "", 0, n))), api.ErrForm)
		refuses(t, inFunction(node(api.NWhile, "", 0, one, node(api.NBlock, "", 0, node(api.NPut, "", 0, one), n))), api.ErrForm)
	}
	for _, n := range []api.Node{node(api.NBlock, "x", 0), node(api.NBlock, "", 1), name, {}} {
		refuses(t, unit(node(api.NFun, "f", 0, whole, n)), api.ErrForm)
		refuses(t, inFunction(node(api.NIf, "", 0, one, n)), api.ErrForm)
		refuses(t, inFunction(node(api.NIf, "", 0, one, block, n)), api.ErrForm)
		refuses(t, inFunction(node(api.NWhile, "", 0, one, n)), api.ErrForm)
	}
}

// F4: nodes that no text has, by hand: expressions.
func TestStrangeExpressions(t *testing.T) {
	l := []api.Node{
		{}, {Kind: -7}, {Kind: 35}, whole, block, param, node(api.NPut, "", 0, one), node(api.NNamed, "s", 0), node(api.NDo, "", 0, call),
		node(api.NNumber, "", -1), node(api.NNumber, "", math.MaxInt32+1), node(api.NNumber, "1", 1), node(api.NNumber, "", 1, one),
		node(api.NLong, "", -1), node(api.NLong, "", math.MinInt64), node(api.NLong, "1", 1), node(api.NLong, "", 1, one),
		node(api.NName, "", 0), node(api.NName, "count", 0), node(api.NName, "x", 1), node(api.NName, "x", 0, one), node(api.NName, "x()", 0), node(api.NName, "1", 0),
		node(api.NDot, "", 0, name), node(api.NDot, "else", 0, name), node(api.NDot, "a", 1, name), node(api.NDot, "a", 0), node(api.NDot, "a", 0, name, name), node(api.NDot, "a", 0, whole), node(api.NDot, "a.b", 0, name),
		node(api.NCall, "", 0), node(api.NCall, "f", 0, name), node(api.NCall, "", 1, name), node(api.NCall, "", 0, whole), node(api.NCall, "", 0, name, block), node(api.NCall, "", 0, name, one, param),
		node(api.NAddr, "", 0), node(api.NAddr, "put", 0), node(api.NAddr, "f", 1), node(api.NAddr, "f", 0, name),
		node(api.NMake, "", 0), node(api.NMake, "int", 0), node(api.NMake, "s", 1), node(api.NMake, "s", 0, whole), node(api.NMake, "s", 0, one, field),
		node(api.NCount, "count", 0), node(api.NCount, "", 1), node(api.NCount, "", 0, one),
		node(api.NOp, "", 1), node(api.NOp, "", 1, one), node(api.NOp, "", 1, one, one, one), node(api.NOp, "+", 1, one, one), node(api.NOp, "", 1, whole, one), node(api.NOp, "", 1, one, block),
	}
	for _, kind := range []int{api.NNeg, api.NNot, api.NToInt, api.NToLong, api.NExtra} {
		l = append(l, node(kind, "", 0), node(kind, "x", 0, one), node(kind, "", 1, one), node(kind, "", 0, one, one), node(kind, "", 0, whole), node(kind, "", 0, block))
	}
	for _, op := range []int64{-1, 0, api.OpHigh, api.OpLow, 13, math.MaxInt64, math.MinInt64} {
		l = append(l, node(api.NOp, "", op, one, one))
	}
	for _, n := range l {
		refuses(t, returned(n), api.ErrForm)
		for _, kind := range []int{api.NNeg, api.NToLong, api.NExtra, api.NCall, api.NDo, api.NReturn} {
			refuses(t, returned(node(kind, "", 0, n)), api.ErrForm)
		}
		refuses(t, returned(node(api.NDot, "a", 0, n)), api.ErrForm)
		refuses(t, returned(node(api.NMake, "s", 0, one, n)), api.ErrForm)
		refuses(t, returned(node(api.NOp, "", api.OpMul, one, n)), api.ErrForm)
		refuses(t, returned(node(api.NOp, "", api.OpSame, n, one)), api.ErrForm)
		refuses(t, returned(node(api.NCall, "", 0, name, n)), api.ErrForm)
		refuses(t, inFunction(node(api.NDo, "", 0, node(api.NCall, "", 0, name, n))), api.ErrForm)
		refuses(t, inFunction(node(api.NSet, "", 0, name, n)), api.ErrForm)
		refuses(t, inFunction(node(api.NIf, "", 0, n, block)), api.ErrForm)
	}
}

// F4: a list that is empty is one, nil or not.
func TestEmptyLists(t *testing.T) {
	n := returned(api.Node{Kind: api.NMake, Text: "s", Kids: []api.Node{}})
	n.Kids[0].Kids[0].Kids = []api.Node{}
	prints(t, n, "int f ( ) { return s { } ; }")
	prints(t, api.Node{Kind: api.NUnit, Kids: []api.Node{}}, "")
}
