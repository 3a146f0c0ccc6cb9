package check_test

import (
	"strings"
	"testing"

	"scarfjoint/api"
)

// G3: what global variables may be.
func TestGlobals(t *testing.T) {
	failAll(t, []row{
		{"int a=1L;", api.ErrKind, api.NGlobal, 0},
		{"int a=-1L;", api.ErrKind, api.NGlobal, 0},
		{"long a=1;", api.ErrKind, api.NGlobal, 0},
		{"static long a=-1;", api.ErrKind, api.NGlobal, 0},
		{"struct s{int a;}s a=1;", api.ErrKind, api.NGlobal, 0},
		{"struct s{int a;}extern s a;", api.ErrKind, api.NOutside, 0},
		{"fn()int a=1;", api.ErrKind, api.NGlobal, 0},
		{"extern fn()int a;", api.ErrKind, api.NOutside, 0},
		{"fn()long a=1L;", api.ErrKind, api.NGlobal, 0},
		{"struct s{long a;}static s a=1L;", api.ErrKind, api.NGlobal, 0},
	})
	mayAll(t, []string{
		"int a=0;int b=-1;static int c=2147483647;static int d=-2147483647;",
		"long a=0L;long b=-1L;static long c=9223372036854775807L;static long d=-9223372036854775807L;",
		"extern int a;extern long b;",
	})
}

// values are expressions of each type, as in knows them.
var values = map[string][]string{
	"int":  {"1", "i", "g", "v.a", "u.d", "u.c.a", "p(1)", "-i", "!i", "int(i)", "int(l)", "i+i", "l==l", "i==i", "l<l", "i<1", "s{1,1L}.a", "k().a"},
	"long": {"1L", "l", "h", "v.b", "u.c.b", "w(1,1L)", "q(1,1L)", "(&w)(1,1L)", "-l", "long(i)", "long(l)", "l+l", "l&l"},
	"s":    {"v", "u.c", "s{1,1L}", "s{i,l}", "k()", "o{v,1}.c"},
	"o":    {"u", "o{v,i}"},
	"fn":   {"q", "&w"},
}

var typeNames = map[string]string{"int": "int", "long": "long", "s": "s", "o": "o", "fn": "fn(int,long)long"}

// places are what may be set, of each type.
var places = map[string][]string{
	"int": {"i", "g", "v.a", "u.d", "u.c.a"}, "long": {"l", "h", "v.b", "u.c.b"}, "s": {"v", "u.c"}, "o": {"u"}, "fn": {"q"},
}

// eachValue goes through all expressions with their types.
func eachValue(yield func(kind, value string)) {
	for kind, l := range values {
		for _, value := range l {
			yield(kind, value)
		}
	}
}

// first finds the number of the first node of a kind.
func first(t *testing.T, text string, kind int) int {
	t.Helper()
	return number(t, text, kind, 0)
}

// statement holds that a statement may stand in a function, or that the first node of a kind is of another type.
func statement(t *testing.T, text string, well bool, kind int) {
	t.Helper()
	whole := in(text)
	if well {
		may(t, whole)
		return
	}
	fails(t, whole, api.Fault{Code: api.ErrKind, At: first(t, whole, kind)})
}

// G4, G6: variables, places, conditions, what is told and what is returned, of each type.
func TestStatements(t *testing.T) {
	eachValue(func(kind, value string) {
		for other, name := range typeNames {
			statement(t, name+" n="+value+";", kind == other, api.NVar)
			for _, place := range places[other] {
				statement(t, place+"="+value+";", kind == other, api.NSet)
			}
			text := ahead + name + " f(int i,long l,s v,o u,fn(int,long)long q){return " + value + ";}"
			if kind == other {
				may(t, text)
			} else {
				fails(t, text, api.Fault{Code: api.ErrKind, At: first(t, text, api.NReturn)})
			}
		}
		statement(t, "if("+value+"){}", kind == "int", api.NIf)
		statement(t, "if("+value+"){}else{}", kind == "int", api.NIf)
		statement(t, "while("+value+"){}", kind == "int", api.NWhile)
		statement(t, "put("+value+");", kind == "int" || kind == "long", api.NPut)
	})
}

// G5: what one expression may have below it, of each type.
func TestUnary(t *testing.T) {
	eachValue(func(kind, value string) {
		number := kind == "int" || kind == "long"
		into := "i="
		if kind == "long" {
			into = "l="
		}
		// What stands around is the first of its kind, wherever it has others below.
		statement(t, into+"-("+value+");", number, api.NNeg)
		statement(t, "i=!("+value+");", kind == "int", api.NNot)
		statement(t, "i=int("+value+");", number, api.NToInt)
		statement(t, "l=long("+value+");", number, api.NToLong)
		statement(t, "p("+value+");", kind == "int", api.NCall)
		statement(t, "p(1,"+value+");", number, api.NCall)
		statement(t, "p(1,1L,1,"+value+");", number, api.NCall)
		statement(t, "w(1,"+value+");", kind == "long", api.NCall)
		statement(t, "w("+value+",1L);", kind == "int", api.NCall)
		statement(t, "v=s{"+value+",1L};", kind == "int", api.NMake)
		statement(t, "v=s{1,"+value+"};", kind == "long", api.NMake)
		statement(t, "u=o{"+value+",1};", kind == "s", api.NMake)
		statement(t, "q(1,"+value+");", kind == "long", api.NCall)
		if kind != "o" {
			statement(t, "i=("+value+").a;", kind == "s", api.NDot)
		}
		statement(t, "l=("+value+")(1,1L);", kind == "fn", api.NCall)
		many := strings.Replace(in("i=extra("+value+");"), "q){", "q,...){", 1)
		if kind == "int" {
			may(t, many)
		} else {
			fails(t, many, api.Fault{Code: api.ErrKind, At: first(t, many, api.NExtra)})
		}
	})
}

// G5: each operation of each two types.
func TestOperations(t *testing.T) {
	firsts := map[string]string{"int": "i", "long": "l", "s": "v", "o": "u", "fn": "q"}
	for left, a := range firsts {
		for right, b := range firsts {
			for _, op := range strings.Fields("+ - | ^ * & / % == <") {
				well := left == right && (left == "int" || left == "long" && op != "/" && op != "%")
				into := "i="
				if left == "long" && op != "==" && op != "<" {
					into = "l="
				}
				statement(t, into+a+op+b+";", well, api.NOp)
			}
		}
	}
}

// G5, G6: other faults of expressions and statements, each alone.
func TestExpressions(t *testing.T) {
	failAll(t, []row{
		{in("i=v.c;"), api.ErrName, api.NDot, 0},
		{in("i=v.A;"), api.ErrName, api.NDot, 0},
		{in("i=u.a;"), api.ErrName, api.NDot, 0},
		{in("i=u.c.d;"), api.ErrName, api.NDot, 0},
		{in("i=i.a;"), api.ErrKind, api.NDot, 0},
		{in("i=l.a;"), api.ErrKind, api.NDot, 0},
		{in("i=q.a;"), api.ErrKind, api.NDot, 0},
		{in("i=v.a.a;"), api.ErrKind, api.NDot, 0},
		{in("u.e=1;"), api.ErrName, api.NDot, 0},
		{in("i.e=1;"), api.ErrKind, api.NDot, 0},
		{in("v=t{1,1L};"), api.ErrName, api.NMake, 0},
		{in("v=f{1,1L};"), api.ErrName, api.NMake, 0},
		{in("v=v{1,1L};"), api.ErrName, api.NMake, 0},
		{in("v=s{};"), api.ErrRange, api.NMake, 0},
		{in("v=s{1};"), api.ErrRange, api.NMake, 0},
		{in("v=s{1,1L,1};"), api.ErrRange, api.NMake, 0},
		{in("v=s{1L,1};"), api.ErrKind, api.NMake, 0},
		{in("i=i();"), api.ErrKind, api.NCall, 0},
		{in("i=g();"), api.ErrKind, api.NCall, 0},
		{in("i=v();"), api.ErrKind, api.NCall, 0},
		{in("i=1();"), api.ErrKind, api.NCall, 0},
		{in("l=w(1,1L)();"), api.ErrKind, api.NCall, 0},
		{in("i=p();"), api.ErrRange, api.NCall, 0},
		{in("l=w();"), api.ErrRange, api.NCall, 0},
		{in("l=w(1);"), api.ErrRange, api.NCall, 0},
		{in("l=w(1,1L,1);"), api.ErrRange, api.NCall, 0},
		{in("l=q(1,1L,1);"), api.ErrRange, api.NCall, 0},
		{in("l=q(1);"), api.ErrRange, api.NCall, 0},
		{in("v=k(1);"), api.ErrRange, api.NCall, 0},
		{in("k(1);"), api.ErrRange, api.NCall, 0},
		{in("f(1,1L,v,u);"), api.ErrRange, api.NCall, 0},
		{in("i=count;"), api.ErrForm, api.NCount, 0},
		{in("i=extra(0);"), api.ErrForm, api.NExtra, 0},
		{"int f(int a,...){return count;}int g(){return count;}", api.ErrForm, api.NCount, 1},
		{"int f(){return count;}int g(...){return count;}", api.ErrForm, api.NCount, 0},
		{"int f(...){return extra(1L);}", api.ErrKind, api.NExtra, 0},
		{"int f(fn(...)int a,...){return extra(a);}", api.ErrKind, api.NExtra, 0},
		{"extern int g(...);int f(fn(...)int a){return extra(0);}", api.ErrForm, api.NExtra, 0},
		{"static int f(){return count;}", api.ErrForm, api.NCount, 0},
	})
	mayAll(t, []string{
		in("k();v=k();i=k().a;w(1,l);q(2,h);"),
		in("f(1,1L,v,u,q);f(1,1L,v,u,&w);"),
		in("q=&w;u.c=s{u.c.a,u.c.b};u.c.b=l;h=h+l;g=g*2;"),
		in("if(1){}if(0){i=1;}else{}while(0){}while(1){i=2;}"),
		"static int f(int a,...){return count+extra(0)+extra(count-1);}",
		"int f(...){if(count){return extra(count);}while(extra(0)){put(count);}return count;}",
	})
}

// G2, D3: structs are the same by their texts, and functions by theirs.
func TestSameTypes(t *testing.T) {
	failAll(t, []row{
		{"struct s{int a;}struct t{int a;}int f(s a){t b=a;return 1;}", api.ErrKind, api.NVar, 0},
		{"int f(fn(int)int a){fn(...)int b=a;return 1;}", api.ErrKind, api.NVar, 0},
		{"int f(fn(int)int a){fn(int,...)int b=a;return 1;}", api.ErrKind, api.NVar, 0},
		{"int f(fn(int,...)int a){fn(int)int b=a;return 1;}", api.ErrKind, api.NVar, 0},
		{"int f(fn(int)int a){fn(int)long b=a;return 1;}", api.ErrKind, api.NVar, 0},
		{"int f(fn(int)int a){fn(long)int b=a;return 1;}", api.ErrKind, api.NVar, 0},
		{"int f(...){fn()int a=&f;return 1;}", api.ErrKind, api.NVar, 0},
		{"int f(){fn(...)int a=&f;return 1;}", api.ErrKind, api.NVar, 0},
		{"extern int g(int a,...);int f(){fn(int)int a=&g;return 1;}", api.ErrKind, api.NVar, 0},
		{"struct s{int a;}extern int g(s a);struct t{int a;}int f(){return g(t{1});}", api.ErrKind, api.NCall, 0},
	})
	mayAll(t, []string{
		"int f(...){fn(...)int a=&f;return a(1,2L);}",
		"static int f(int a,...){fn(int,...)int b=&f;return b(1,2L);}",
		"static int f(){fn()int a=&f;return 1;}",
		"extern int g(int a,...);int f(){fn(int,...)int a=&g;return 1;}",
		"struct s{int a;}extern s g(s a);s f(fn(s)s a){a=&g;return a(s{1});}",
	})
}

// G6: a function's block ends with a return, other blocks as they like.
func TestLastReturn(t *testing.T) {
	failAll(t, []row{
		{"int f(){}", api.ErrForm, api.NBlock, 0},
		{"int f(){put(1);}", api.ErrForm, api.NBlock, 0},
		{"int f(){return 1;put(1);}", api.ErrForm, api.NBlock, 0},
		{"int f(){return 1;int a=1;}", api.ErrForm, api.NBlock, 0},
		{"int f(){if(1){return 1;}else{return 2;}}", api.ErrForm, api.NBlock, 0},
		{"int f(){while(1){return 1;}}", api.ErrForm, api.NBlock, 0},
		{"int f(){return 1;}int g(){f();}", api.ErrForm, api.NBlock, 1},
		{"int f(){if(1){}return 1;}int g(){}", api.ErrForm, api.NBlock, 2},
	})
	mayAll(t, []string{
		"int f(){return 1;}",
		"int f(){return 1;return 2;}",
		"int f(){if(1){}else{}while(1){}return 1;}",
		"int f(){if(1){return 1;put(1);}return 1;}",
	})
}
