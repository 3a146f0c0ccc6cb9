package check_test

import (
	"strings"
	"testing"

	"scarfjoint/api"
	"scarfjoint/check"
	"scarfjoint/syntax"
)

// row is a text with its fault: its code, and which of the nodes of a kind has it.
type row struct {
	text string
	code api.Errno
	kind int
	nth  int
}

// all has a node and all below it as they are numbered.
func all(n api.Node) []api.Node {
	l := []api.Node{n}
	for _, kid := range n.Kids {
		l = append(l, all(kid)...)
	}
	return l
}

// number finds the number of one of a text's nodes.
func number(t *testing.T, text string, kind, nth int) int {
	t.Helper()
	n, f := syntax.Parse(text)
	if f.Code != api.OK {
		t.Fatalf("%q is no unit: %v", text, f)
	}
	for at, n := range all(n) {
		if n.Kind == kind {
			if nth == 0 {
				return at
			}
			nth--
		}
	}
	t.Fatalf("%q has no such node", text)
	return 0
}

func isZero(n api.Node) bool {
	return n.Kind == 0 && n.Text == "" && n.Num == 0 && len(n.Kids) == 0
}

func same(a, b api.Node) bool {
	if a.Kind != b.Kind || a.Text != b.Text || a.Num != b.Num || len(a.Kids) != len(b.Kids) {
		return false
	}
	for i := range a.Kids {
		if !same(a.Kids[i], b.Kids[i]) {
			return false
		}
	}
	return true
}

// fails holds that all calls tell just this fault of a text.
func fails(t *testing.T, text string, want api.Fault) {
	t.Helper()
	if n, f := check.Check(text); f != want || !isZero(n) {
		t.Errorf("%.300q: %v, not %v", text, f, want)
	}
	if l, f := check.Types(text); f != want || len(l) != 0 {
		t.Errorf("%.300q: %v, not %v", text, f, want)
	}
	if l, f := check.Declared(text); f != want || len(l) != 0 {
		t.Errorf("%.300q: %v, not %v", text, f, want)
	}
	if n, l, f := check.Unit(text); f != want || len(l) != 0 || !isZero(n) {
		t.Errorf("%.300q: %v, not %v", text, f, want)
	}
}

// may holds that a text's unit may be.
func may(t *testing.T, text string) {
	t.Helper()
	want, f := syntax.Parse(text)
	if f.Code != api.OK {
		t.Fatalf("%.300q is no unit: %v", text, f)
	}
	if n, f := check.Check(text); f != (api.Fault{}) || !same(n, want) {
		t.Errorf("%.300q: %v", text, f)
	}
	if l, f := check.Types(text); f != (api.Fault{}) || len(l) != len(all(want)) {
		t.Errorf("%.300q: %v %d", text, f, len(l))
	}
}

func failAll(t *testing.T, rows []row) {
	t.Helper()
	for _, r := range rows {
		fails(t, r.text, api.Fault{Code: r.code, At: number(t, r.text, r.kind, r.nth)})
	}
}

func mayAll(t *testing.T, texts []string) {
	t.Helper()
	for _, text := range texts {
		may(t, text)
	}
}

// in is a unit with statements in a function that has a little of all, behind s and g, h, p and w.
func in(statements string) string {
	return ahead + "int f(int i,long l,s v,o u,fn(int,long)long q){" + statements + "return 0;}"
}

const ahead = "struct s{int a;long b;}struct o{s c;int d;}int g=1;long h=2L;extern int p(int a,...);extern long w(int a,long b);extern s k();"

// fill is a text some times, with a number in it each time.
func fill(text string, times int, between string) string {
	var l []string
	for i := range times {
		l = append(l, strings.ReplaceAll(text, "#", string(rune('a'+i))))
	}
	return strings.Join(l, between)
}

// G1: the fault of Parse comes ahead of all others, and its place is a byte.
func TestParsesFault(t *testing.T) {
	for text, want := range map[string]api.Fault{
		"":                                 {},
		"@":                                {Code: api.ErrForm},
		"int f(){return x;} @":             {Code: api.ErrForm, At: 19},
		"int f(){return x;} int":           {Code: api.ErrForm, At: 22},
		"int f(){x;}":                      {Code: api.ErrForm, At: 9},
		"int g=2147483648;":                {Code: api.ErrRange, At: 6},
		"x y; abcdefghijklmnopq":           {Code: api.ErrSize, At: 5},
		strings.Repeat(" ", api.MaxText):   {},
		strings.Repeat(" ", api.MaxText+1): {Code: api.ErrSize},
		"int f(){return " + strings.Repeat("-", 99) + "x;}": {Code: api.ErrSize},
		strings.Repeat("x y;", 400):                         {Code: api.ErrForm, At: 3},
		strings.Repeat("int a=1;", 300):                     {Code: api.ErrSize},
	} {
		if want == (api.Fault{}) {
			may(t, text)
		} else {
			fails(t, text, want)
		}
	}
}

// G1: the numbers of nodes, counted by hand.
func TestNumbers(t *testing.T) {
	for text, want := range map[string]api.Fault{
		"int f(int x){int x=1;return x;}":                       {Code: api.ErrTwice, At: 6},
		"x f(){return 1;}":                                      {Code: api.ErrName, At: 2},
		"struct s{int a;int a;}":                                {Code: api.ErrTwice, At: 4},
		"int f(){return 1L;}":                                   {Code: api.ErrKind, At: 4},
		"int a=1;long a=1L;":                                    {Code: api.ErrTwice, At: 4},
		"int f(fn(int,long)int a,int b){return a(1,2L)+c;}":     {Code: api.ErrName, At: 17},
		"int f(){if(1){put(1);}else{put(1);put(a);}return 1;}":  {Code: api.ErrName, At: 13},
		"int f(){return 1;}int g(){return f(1,f(),-f(2));}":     {Code: api.ErrRange, At: 16},
		"int f(){return 1;}int g(){return f()+f(1,f(),-f(2));}": {Code: api.ErrRange, At: 19},
	} {
		fails(t, text, want)
	}
}

// G1: of faults of two nodes the one that is gone over first is told.
func TestFirstNode(t *testing.T) {
	failAll(t, []row{
		// from the left
		{"x f(){return 1;}y g(){return 1;}", api.ErrName, api.NNamed, 0},
		{"int f(){return 1L;}y g(){return 1;}", api.ErrKind, api.NReturn, 0},
		{in("put(a);put(b);"), api.ErrName, api.NName, 0},
		{in("i=a+b;"), api.ErrName, api.NName, 1},
		{in("i=w(b,a);"), api.ErrName, api.NName, 2},
		{in("x a=b;"), api.ErrName, api.NNamed, 4},
		{in("if(a){put(b);}else{put(c);}"), api.ErrName, api.NName, 0},
		{in("if(1){put(b);}else{put(c);}"), api.ErrName, api.NName, 0},
		{in("while(a){put(b);}"), api.ErrName, api.NName, 0},
		{in("a=b;"), api.ErrName, api.NName, 0},
		{"struct s{x a;y b;}", api.ErrName, api.NNamed, 0},
		{"struct s{int a;int a;y b;}", api.ErrTwice, api.NField, 1},
		{"struct s{x a;}struct s{int a;}", api.ErrName, api.NNamed, 0},
		{"extern int f(int a,int a,x b);", api.ErrTwice, api.NParam, 1},
		{"int a=1;int a=1;x b=1;", api.ErrTwice, api.NGlobal, 1},
		{"int f(fn(x)y a){return 1;}", api.ErrName, api.NNamed, 0},
		// the result's type stands ahead in the text, but behind the parameters as a node
		{"x f(y a){return 1;}", api.ErrName, api.NNamed, 0},
		{"x f(int a,int a){return 1;}", api.ErrTwice, api.NParam, 1},
		{"extern x f(int a,int a);", api.ErrTwice, api.NParam, 1},
		{"extern x f(y a);", api.ErrName, api.NNamed, 0},
	})
}

// G1: a node's own fault comes behind those of its kids.
func TestKidsFirst(t *testing.T) {
	failAll(t, []row{
		{"struct s{int a;}struct s{int a;x b;}", api.ErrName, api.NNamed, 0},
		{"struct s{int a;}struct s{int b;int b;}", api.ErrTwice, api.NField, 2},
		{"struct s{int a;x a;}", api.ErrName, api.NNamed, 0},
		{"struct s{" + fill("int #;", 7, "") + "int a;}", api.ErrTwice, api.NField, 7},
		{"extern int f(int a,x a);", api.ErrName, api.NNamed, 0},
		{"int f=1;extern int f(x a);", api.ErrName, api.NNamed, 0},
		{"int f=1;extern int f(int a,int a);", api.ErrTwice, api.NParam, 1},
		{"int f=1;extern x f();", api.ErrName, api.NNamed, 0},
		{"int f=1;extern x f;", api.ErrName, api.NNamed, 0},
		{"int f=1;x f=1;", api.ErrName, api.NNamed, 0},
		{"int f(fn(int,int,int,int,int,int,int,x)int a){return 1;}", api.ErrName, api.NNamed, 0},
		{in("long i=a;"), api.ErrName, api.NName, 0},
		{in("x i=1;"), api.ErrName, api.NNamed, 4},
		{in("l=-v;"), api.ErrKind, api.NNeg, 0},
		{in("put(&a);"), api.ErrName, api.NAddr, 0},
		{in("put(v.c);"), api.ErrName, api.NDot, 0},
		{in("if(l){put(v);}"), api.ErrKind, api.NPut, 0},
		{in("if(l){put(1);}else{put(v);}"), api.ErrKind, api.NPut, 1},
		{in("while(l){put(v);}"), api.ErrKind, api.NPut, 0},
		{in("while(v==v){put(a);}"), api.ErrKind, api.NOp, 0},
		{in("i=i+-v;"), api.ErrKind, api.NNeg, 0},
		{in("i=v+a;"), api.ErrName, api.NName, 2},
		{in("i=!-v;"), api.ErrKind, api.NNeg, 0},
		{in("v=x{a};"), api.ErrName, api.NName, 1},
		{in("v=s{a};"), api.ErrName, api.NName, 1},
		{in("i=i(a);"), api.ErrName, api.NName, 2},
		{in("i=w(a);"), api.ErrName, api.NName, 2},
		{in("i=a(b);"), api.ErrName, api.NName, 1},
		{in("i=extra(a);"), api.ErrName, api.NName, 1},
		{"int f(){put(a);}", api.ErrName, api.NName, 0},
		{"int f(){if(1L){return 1;}}", api.ErrKind, api.NIf, 0},
		{"int f(){if(1){int a=1L;}}", api.ErrKind, api.NVar, 0},
	})
}

// G1: a function's own faults come behind its parameters and its result's type, ahead of its block.
func TestFunctionsOrder(t *testing.T) {
	big := "struct s{" + fill("long #;", 6, "") + "}"
	seven := fill("int #", 7, ",")
	failAll(t, []row{
		{"int f=1;int f(x a){return 1;}", api.ErrName, api.NNamed, 0},
		{"int f=1;int f(int a,int a){return 1;}", api.ErrTwice, api.NParam, 1},
		{"int f=1;x f(){return 1;}", api.ErrName, api.NNamed, 0},
		{"int f=1;int f(){return a;}", api.ErrTwice, api.NFun, 0},
		{"int f=1;int f(){put(1);}", api.ErrTwice, api.NFun, 0},
		{"int f(" + seven + "){return h;}", api.ErrSize, api.NFun, 0},
		{"x f(" + seven + "){return h;}", api.ErrName, api.NNamed, 0},
		{"int f(" + seven + ",int a){return h;}", api.ErrTwice, api.NParam, 7},
		{"int f(){return 1;}int f(" + seven + "){return h;}", api.ErrTwice, api.NFun, 1},
		{big + "int f(s a,s b,s c,s d){return h;}", api.ErrSize, api.NFun, 0},
		{big + "int f(){return 1;}int f(s a,s b,s c,s d){return h;}", api.ErrTwice, api.NFun, 1},
		{big + "int f(s a,s b,s c,s d,x e){return h;}", api.ErrName, api.NNamed, 4},
		{"int f(){return a;}int f(){return 1;}", api.ErrName, api.NName, 0},
	})
}

// G1, P2: of several faults of one node the one that is named first is told.
func TestNamedFirst(t *testing.T) {
	seven := fill("int #", 7, ",")
	failAll(t, []row{
		{"struct s{int a;}struct s{" + fill("int #;", 7, "") + "}", api.ErrTwice, api.NStruct, 1},
		{"int f=1;extern int f(" + seven + ");", api.ErrTwice, api.NExtern, 0},
		{"int f=1;int f(" + seven + "){return 1;}", api.ErrTwice, api.NFun, 0},
		{"struct s{int a;}int f=1;extern s f;", api.ErrTwice, api.NOutside, 0},
		{"int f=1;int f=1L;", api.ErrTwice, api.NGlobal, 1},
		{"struct s{int a;}int f=1;s f=1;", api.ErrTwice, api.NGlobal, 1},
		{in("long i=1;"), api.ErrTwice, api.NVar, 0},
		{in("o a=u;o b=u;o i=u;"), api.ErrTwice, api.NVar, 2},
		{in(fill("o #=u;", 4, "") + "o i=1;"), api.ErrTwice, api.NVar, 4},
		{"struct o{" + fill("long #;", 6, "") + "}int f(o a,o b,o c){int d=1;int e=1;int g=1;int h=1;long i=1;return 1;}", api.ErrKind, api.NVar, 4},
		{in("v=x{1,2};"), api.ErrName, api.NMake, 0},
		{in("v=s{1L};"), api.ErrRange, api.NMake, 0},
		{in("v=s{1L,2L,3L};"), api.ErrRange, api.NMake, 0},
		{in("i=i(1,2);"), api.ErrKind, api.NCall, 0},
		{in("l=w(1L);"), api.ErrRange, api.NCall, 0},
		{in("l=w(1L,1,1);"), api.ErrRange, api.NCall, 0},
		{in("i=p(1,1,1,1,1,1,1,v);"), api.ErrKind, api.NCall, 0},
		{in("i=p(1L,1,1,1,1,1,1,1);"), api.ErrKind, api.NCall, 0},
		{in("i=extra(1L);"), api.ErrForm, api.NExtra, 0},
	})
}
