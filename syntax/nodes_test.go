package syntax_test

import (
	"strconv"
	"strings"
	"testing"

	"scarfjoint/api"
	"scarfjoint/syntax"
)

// kinds has the names that these tests have for the kinds of nodes.
var kinds = [...]string{"none", "unit", "struct", "field", "extern", "outside", "global", "fun", "param", "int", "long", "named", "fn", "block", "var", "set", "if", "while", "return", "put", "do", "number", "wide", "name", "dot", "call", "addr", "make", "neg", "not", "toint", "tolong", "op", "count", "extra"}

// show writes a node with all that it has: its kind, its Text, its Num if it has one, its kids.
func show(n api.Node) string {
	s := strconv.Itoa(n.Kind)
	if 0 <= n.Kind && n.Kind < len(kinds) {
		s = kinds[n.Kind]
	}
	if n.Text != "" {
		s += ":" + n.Text
	}
	if n.Num != 0 {
		s += "/" + strconv.FormatInt(n.Num, 10)
	}
	if len(n.Kids) > 0 {
		s += "[" + showAll(n.Kids) + "]"
	}
	return s
}

func showAll(l []api.Node) string {
	var s []string
	for _, n := range l {
		s = append(s, show(n))
	}
	return strings.Join(s, " ")
}

// same says whether two nodes are; an empty list is one, nil or not.
func same(a, b api.Node) bool {
	if a.Kind != b.Kind || a.Text != b.Text || a.Num != b.Num || len(a.Kids) != len(b.Kids) {
		return false
	}
	for at := range a.Kids {
		if !same(a.Kids[at], b.Kids[at]) {
			return false
		}
	}
	return true
}

// parse gives the node of a text that must be a unit.
func parse(t *testing.T, text string) api.Node {
	t.Helper()
	n, f := syntax.Parse(text)
	if f != (api.Fault{}) {
		t.Fatalf("%.200q: %v", text, f)
	}
	return n
}

// stats gives the statements of a text; expr gives an expression's node.
func stats(t *testing.T, text string) []api.Node {
	t.Helper()
	return parse(t, "int f(){"+text+"}").Kids[0].Kids[1].Kids
}

func expr(t *testing.T, text string) api.Node {
	t.Helper()
	l := stats(t, "return "+text+";")
	if len(l) != 1 || l[0].Kind != api.NReturn || len(l[0].Kids) != 1 {
		t.Fatalf("%.200q: %s", text, showAll(l))
	}
	return l[0].Kids[0]
}

// F1: the empty text, and texts of blanks and notes alone, are units without kids.
func TestUnitOfNothing(t *testing.T) {
	for _, text := range []string{"", " ", "\n\n", "# int x", " # x\n "} {
		if n := parse(t, text); show(n) != "unit" || len(n.Kids) != 0 {
			t.Errorf("%q: %s", text, show(n))
		}
	}
}

// F1: each row of declarations, with and without what may be missing.
func TestDeclarations(t *testing.T) {
	for text, want := range map[string]string{
		"struct s{int a;}":                             "struct:s[field:a[int]]",
		"struct s{int a;long b;s c;}":                  "struct:s[field:a[int] field:b[long] field:c[named:s]]",
		"struct s{fn()int a;fn(...)s b;}":              "struct:s[field:a[fn[int]] field:b[fn/1[named:s]]]",
		"struct s{int a;}struct s{int a;}":             "struct:s[field:a[int]] struct:s[field:a[int]]",
		"extern int x;":                                "outside:x[int]",
		"extern s x;":                                  "outside:x[named:s]",
		"extern int f();":                              "extern:f[int]",
		"extern int f(...);":                           "extern:f/1[int]",
		"extern long f(int a);":                        "extern:f[param:a[int] long]",
		"extern long f(int a,...);":                    "extern:f/1[param:a[int] long]",
		"extern s f(int a,long b,s c);":                "extern:f[param:a[int] param:b[long] param:c[named:s] named:s]",
		"extern s f(int a,long b,s c,...);":            "extern:f/1[param:a[int] param:b[long] param:c[named:s] named:s]",
		"extern fn()int f(fn(int)s a);":                "extern:f[param:a[fn[int named:s]] fn[int]]",
		"int x=0;":                                     "global:x[int number]",
		"int x=7;":                                     "global:x[int number/7]",
		"int x=-7;":                                    "global:x[int number/-7]",
		"int x=-0;":                                    "global:x[int number]",
		"int x=2147483647;":                            "global:x[int number/2147483647]",
		"int x=-2147483647;":                           "global:x[int number/-2147483647]",
		"static int x=7;":                              "global:x/1[int number/7]",
		"static int x=-7;":                             "global:x/1[int number/-7]",
		"long x=7L;":                                   "global:x[long wide/7]",
		"long x=-9223372036854775807L;":                "global:x[long wide/-9223372036854775807]",
		"static long x = - 0L;":                        "global:x/1[long wide]",
		"long x=7;int y=7L;":                           "global:x[long number/7] global:y[int wide/7]",
		"fn()int x=1;s y=1;":                           "global:x[fn[int] number/1] global:y[named:s number/1]",
		"int f(){}":                                    "fun:f[int block]",
		"static int f(){}":                             "fun:f/1[int block]",
		"int f(...){}":                                 "fun:f/2[int block]",
		"static int f(...){}":                          "fun:f/3[int block]",
		"s f(int a){return 1;}":                        "fun:f[param:a[int] named:s block[return[number/1]]]",
		"s f(int a,s b){}":                             "fun:f[param:a[int] param:b[named:s] named:s block]",
		"static long f(int a,...){}":                   "fun:f/3[param:a[int] long block]",
		"s f(int a,s b,...){}":                         "fun:f/2[param:a[int] param:b[named:s] named:s block]",
		"fn(...)fn()s f(fn(int,...)int a){}":           "fun:f[param:a[fn/1[int int]] fn/1[fn[named:s]] block]",
		"int x=1;extern int x;int x(){}struct x{x x;}": "global:x[int number/1] outside:x[int] fun:x[int block] struct:x[field:x[named:x]]",
	} {
		n := parse(t, text)
		if show(n) != "unit["+want+"]" {
			t.Errorf("%s: %s", text, show(n))
		}
	}
}

// F1: each row of types, with and without what may be missing.
func TestTypes(t *testing.T) {
	for text, want := range map[string]string{
		"int":                     "int",
		"long":                    "long",
		"s":                       "named:s",
		"count_1":                 "named:count_1",
		"fn()int":                 "fn[int]",
		"fn(...)int":              "fn/1[int]",
		"fn(int)long":             "fn[int long]",
		"fn(int,...)long":         "fn/1[int long]",
		"fn(int,long,s)t":         "fn[int long named:s named:t]",
		"fn(int,long,s,...)t":     "fn/1[int long named:s named:t]",
		"fn()fn()int":             "fn[fn[int]]",
		"fn(fn()int)int":          "fn[fn[int] int]",
		"fn(fn(...)int,...)fn()s": "fn/1[fn/1[int] fn[named:s]]",
	} {
		if n := parse(t, "extern "+text+" x;"); show(n) != "unit[outside:x["+want+"]]" {
			t.Errorf("%s: %s", text, show(n))
		}
		if l := stats(t, text+" x=1;"); showAll(l) != "var:x["+want+" number/1]" {
			t.Errorf("%s: %s", text, showAll(l))
		}
	}
}

// F1: each row of statements, with and without what may be missing; places and calls.
func TestStatements(t *testing.T) {
	for text, want := range map[string]string{
		"":                             "",
		"int x=1;":                     "var:x[int number/1]",
		"s x=y;":                       "var:x[named:s name:y]",
		"x=1;":                         "set[name:x number/1]",
		"x.a=1;":                       "set[dot:a[name:x] number/1]",
		"x.a.b=1;":                     "set[dot:b[dot:a[name:x]] number/1]",
		"x=y==z;":                      "set[name:x op/12[name:y name:z]]",
		"f();":                         "do[call[name:f]]",
		"f(1);":                        "do[call[name:f number/1]]",
		"f(1,x,g());":                  "do[call[name:f number/1 name:x call[name:g]]]",
		"f()();":                       "do[call[call[name:f]]]",
		"x.f();":                       "do[call[dot:f[name:x]]]",
		"x.a.f(1);":                    "do[call[dot:f[dot:a[name:x]] number/1]]",
		"x().f();":                     "do[call[dot:f[call[name:x]]]]",
		"x(1)(2).a.b(3)(4,5);":         "do[call[call[dot:b[dot:a[call[call[name:x number/1] number/2]]] number/3] number/4 number/5]]",
		"if(1){}":                      "if[number/1 block]",
		"if(1){}else{}":                "if[number/1 block block]",
		"if(1){x=1;}else{f();f();}":    "if[number/1 block[set[name:x number/1]] block[do[call[name:f]] do[call[name:f]]]]",
		"if(1){if(2){}else{}}":         "if[number/1 block[if[number/2 block block]]]",
		"if(1){if(2){}}else{}":         "if[number/1 block[if[number/2 block]] block]",
		"if(x{}){}":                    "if[make:x block]",
		"while(1){}":                   "while[number/1 block]",
		"while(x<1){x=1;}":             "while[op/10[name:x number/1] block[set[name:x number/1]]]",
		"return 1;":                    "return[number/1]",
		"return x{};":                  "return[make:x]",
		"put(1);":                      "put[number/1]",
		"put((1));":                    "put[number/1]",
		"return 1;put(1);x=1;int x=1;": "return[number/1] put[number/1] set[name:x number/1] var:x[int number/1]",
	} {
		if l := stats(t, text); showAll(l) != want {
			t.Errorf("%s: %s", text, showAll(l))
		}
	}
}

// F2: each row of the list, alone, in parentheses, and with what may stand behind it.
func TestFirstOnes(t *testing.T) {
	for text, want := range map[string]string{
		"0":                    "number",
		"5":                    "number/5",
		"2147483647":           "number/2147483647",
		"0L":                   "wide",
		"5L":                   "wide/5",
		"9223372036854775807L": "wide/9223372036854775807",
		"x":                    "name:x",
		"x{}":                  "make:x",
		"x{1}":                 "make:x[number/1]",
		"x{1,y,z{},2L}":        "make:x[number/1 name:y make:z wide/2]",
		"&x":                   "addr:x",
		"int(x)":               "toint[name:x]",
		"long(x)":              "tolong[name:x]",
		"int(long(int(1L)))":   "toint[tolong[toint[wide/1]]]",
		"count":                "count",
		"extra(x)":             "extra[name:x]",
		"extra(count)":         "extra[count]",
		"int(x==y)":            "toint[op/12[name:x name:y]]",
		"extra(x<y)":           "extra[op/10[name:x name:y]]",
	} {
		for behind, forms := range map[string]string{
			"":             "%",
			".a":           "dot:a[%]",
			"()":           "call[%]",
			"(1)":          "call[% number/1]",
			"(1,y)":        "call[% number/1 name:y]",
			"(y==z,x{1})":  "call[% op/12[name:y name:z] make:x[number/1]]",
			".a.b":         "dot:b[dot:a[%]]",
			".a()":         "call[dot:a[%]]",
			"().a":         "dot:a[call[%]]",
			"()(1)()":      "call[call[call[%] number/1]]",
			"(1).a.b(2).c": "dot:c[call[dot:b[dot:a[call[% number/1]]] number/2]]",
		} {
			form := strings.Replace(forms, "%", want, 1)
			for _, whole := range []string{text + behind, "(" + text + ")" + behind, "((" + text + "))" + behind, "(" + text + behind + ")"} {
				if n := expr(t, whole); show(n) != form {
					t.Errorf("%s: %s, not %s", whole, show(n), form)
				}
			}
			if n := expr(t, "-"+text+behind); show(n) != "neg["+form+"]" {
				t.Errorf("-%s%s: %s", text, behind, show(n))
			}
			if n := expr(t, "!"+text+behind); show(n) != "not["+form+"]" {
				t.Errorf("!%s%s: %s", text, behind, show(n))
			}
		}
	}
}

// F2: operators of one level and of two, in both orders, with and without parentheses.
func TestOperators(t *testing.T) {
	levels := [][]string{{"==", "<"}, {"+", "-", "|", "^"}, {"*", "/", "%", "&"}}
	nums := map[string]int{"==": 12, "<": 10, "+": 1, "-": 2, "|": 8, "^": 9, "*": 3, "/": 5, "%": 6, "&": 7}
	form := func(sign, left, right string) string {
		return "op/" + strconv.Itoa(nums[sign]) + "[" + left + " " + right + "]"
	}
	for up, first := range levels {
		for down, second := range levels {
			for _, a := range first {
				for _, b := range second {
					left := form(b, form(a, "name:x", "name:y"), "name:z")
					right := form(a, "name:x", form(b, "name:y", "name:z"))
					plain := left
					if down > up {
						plain = right
					}
					if up == 0 && down == 0 {
						plain = ""
					}
					for text, want := range map[string]string{"x" + a + "y" + b + "z": plain, "(x" + a + "y)" + b + "z": left, "x" + a + "(y" + b + "z)": right} {
						if want == "" {
							continue
						}
						if n := expr(t, text); show(n) != want {
							t.Errorf("%s: %s, not %s", text, show(n), want)
						}
					}
				}
			}
		}
	}
}

// F2: rows of operators, - and ! ahead of each other and of others.
func TestRows(t *testing.T) {
	for text, want := range map[string]string{
		"1+2":               "op/1[number/1 number/2]",
		"1==2":              "op/12[number/1 number/2]",
		"a-b-c-d":           "op/2[op/2[op/2[name:a name:b] name:c] name:d]",
		"a-(b-(c-d))":       "op/2[name:a op/2[name:b op/2[name:c name:d]]]",
		"a+b*c-d":           "op/2[op/1[name:a op/3[name:b name:c]] name:d]",
		"a*b+c*d":           "op/1[op/3[name:a name:b] op/3[name:c name:d]]",
		"a*(b+c)*d":         "op/3[op/3[name:a op/1[name:b name:c]] name:d]",
		"a+b==c*d":          "op/12[op/1[name:a name:b] op/3[name:c name:d]]",
		"a&b|c^d":           "op/9[op/8[op/7[name:a name:b] name:c] name:d]",
		"(a==b)<(c<d)":      "op/10[op/12[name:a name:b] op/10[name:c name:d]]",
		"-a":                "neg[name:a]",
		"!a":                "not[name:a]",
		"--a":               "neg[neg[name:a]]",
		"!!a":               "not[not[name:a]]",
		"-!a":               "neg[not[name:a]]",
		"!-a":               "not[neg[name:a]]",
		"-!-!7":             "neg[not[neg[not[number/7]]]]",
		"-0":                "neg[number]",
		"-7":                "neg[number/7]",
		"-7L":               "neg[wide/7]",
		"-2147483647":       "neg[number/2147483647]",
		"-a.b":              "neg[dot:b[name:a]]",
		"(-a).b":            "dot:b[neg[name:a]]",
		"-a()":              "neg[call[name:a]]",
		"(!a)()":            "call[not[name:a]]",
		"-a*b":              "op/3[neg[name:a] name:b]",
		"a*-b":              "op/3[name:a neg[name:b]]",
		"-(a*b)":            "neg[op/3[name:a name:b]]",
		"-a+b":              "op/1[neg[name:a] name:b]",
		"a-b":               "op/2[name:a name:b]",
		"a--b":              "op/2[name:a neg[name:b]]",
		"a- - -b":           "op/2[name:a neg[neg[name:b]]]",
		"!a==b":             "op/12[not[name:a] name:b]",
		"!(a==b)":           "not[op/12[name:a name:b]]",
		"a&b":               "op/7[name:a name:b]",
		"a&&b":              "op/7[name:a addr:b]",
		"&a&&b":             "op/7[addr:a addr:b]",
		"-&a":               "neg[addr:a]",
		"(a+b).c":           "dot:c[op/1[name:a name:b]]",
		"(a+b)(c)":          "call[op/1[name:a name:b] name:c]",
		"(a==b)+c":          "op/1[op/12[name:a name:b] name:c]",
		"((((a))))":         "name:a",
		"((a)+((b)))":       "op/1[name:a name:b]",
		"int(a)*long(b)":    "op/3[toint[name:a] tolong[name:b]]",
		"f(-1,!2)*g{-x}.y":  "op/3[call[name:f neg[number/1] not[number/2]] dot:y[make:g[neg[name:x]]]]",
		"x{y{}}.a(&f)(z)+1": "op/1[call[call[dot:a[make:x[make:y]] addr:f] name:z] number/1]",
	} {
		if n := expr(t, text); show(n) != want {
			t.Errorf("%s: %s, not %s", text, show(n), want)
		}
	}
}

// F3: blanks and notes between tokens change nothing.
func TestBlanks(t *testing.T) {
	const text = "int main ( ) { return ( 1 + 2 ) * - 3 ; }"
	want := parse(t, text)
	for _, between := range []string{"\n", "  ", " # } ;\n", "#\n"} {
		spread := between + strings.ReplaceAll(text, " ", between) + between
		if n := parse(t, spread); !same(n, want) {
			t.Errorf("%q: %s", spread, show(n))
		}
	}
	if n := parse(t, "int main(){return (1+2)*-3;}"); !same(n, want) {
		t.Error(show(n))
	}
}
