package check_test

import (
	"slices"
	"strings"
	"testing"

	"scarfjoint/api"
	"scarfjoint/check"
	"scarfjoint/types"
)

// told tells the types of a text's nodes, those that are "" left out.
func told(t *testing.T, text string) []string {
	t.Helper()
	l, f := check.Types(text)
	if f != (api.Fault{}) {
		t.Fatalf("%q: %v", text, f)
	}
	return slices.DeleteFunc(l, func(s string) bool { return s == "" })
}

// G7: all types of some units, by their nodes' numbers.
func TestTypes(t *testing.T) {
	for text, want := range map[string]string{
		"":                        "-",
		"int f(int x){return x;}": "- - - - - - - int",
		"int a=1;":                "- - - -",
		"long a=1L;":              "- - - -",
		"static int a=-1;":        "- - - -",
		"static long a=-1L;extern int b;extern long c(int a,...);": "- - - - - - - - - -",
		"int a=0;int f(){return a;}long b=2L;":                     "- - - - - - - - int - - -",
		"long a=-1L;int f(){long a=-1L;a=1L;return 1;}":            "- - - - - - - - - long long - long long - int",
		"struct s{int a;}":                                  "- - - -",
		"int f(){return f();}":                              "- - - - - int fn()int",
		"int f(long a){f(a);put(a);return 1;}":              "- - - - - - - int fn(long)int long - long - int",
		"int f(){int a=1;if(a){a=2;}else{}return int(1L);}": "- - - - - - int - int - - int int - - int long",
		"int f(int a,...){while(!a){}return extra(count);}": "- - - - - - - int int - - int int",
	} {
		l, f := check.Types(text)
		for at, s := range l {
			if s == "" {
				l[at] = "-"
			}
		}
		if got := strings.Join(l, " "); got != want || f != (api.Fault{}) {
			t.Errorf("%q: %q %v", text, got, f)
		}
	}
}

// G2, G3: the types of declarations, in order.
func TestDeclaredTypes(t *testing.T) {
	for text, want := range map[string][]string{
		"":         nil,
		"int a=1;": {"int"},
		"long a=1L;static long b=-1L;extern int c;":                                            {"long", "long", "int"},
		"extern int f();int g(){return 1;}":                                                    {"fn()int", "fn()int"},
		"static int f(int a,...){return 1;}extern long g(...);int h(fn(int)long a){return 1;}": {"fn(int,...)int", "fn(...)long", "fn(fn(int)long)int"},
		"struct s{int a;long b;}struct t{s c;}extern t f(s a);int s=1;int t(){return 1;}": {
			"struct s{int a;long b;}", "struct t{struct s{int a;long b;} c;}", "fn(struct s{int a;long b;})struct t{struct s{int a;long b;} c;}", "int", "fn()int",
		},
	} {
		if l, f := check.Declared(text); f != (api.Fault{}) || !slices.Equal(l, want) {
			t.Errorf("%q: %q %v", text, l, f)
		}
		n, l, f := check.Unit(text)
		var texts []string
		for _, d := range l {
			texts = append(texts, types.Text(d))
		}
		if m, _ := check.Check(text); f != (api.Fault{}) || !same(n, m) || !slices.Equal(texts, want) {
			t.Errorf("%q: %q %v", text, texts, f)
		}
	}
}

// G7: the type of each kind of expression, of what it has below, from the left.
func TestExpressionTypes(t *testing.T) {
	const (
		s = "struct s{int a;long b;}"
		o = "struct o{" + s + " c;int d;}"
		p = "fn(int,...)int"
		w = "fn(int,long)long"
		k = "fn()" + s
		f = "fn(int,long," + s + "," + o + "," + w + ")int"
	)
	for text, want := range map[string][]string{
		"put(7);":                {"int"},
		"put(7L);":               {"long"},
		"put(i);":                {"int"},
		"put(h);":                {"long"},
		"i=g;":                   {"int", "int"},
		"v=v;":                   {s, s},
		"u.c.b=u.c.b;":           {"long", s, o, "long", s, o},
		"put(v.a);":              {"int", s},
		"s n=s{1,2L};":           {s, "int", "long"},
		"o n=o{v,1};":            {o, s, "int"},
		"fn(int,long)long n=&w;": {w},
		"q=&w;":                  {w, w},
		"p(1,2L,i);":             {"int", p, "int", "long", "int"},
		"q(1,2L);":               {"long", w, "int", "long"},
		"l=(&w)(1,2L);":          {"long", "long", w, "int", "long"},
		"put(k().b);":            {"long", s, k},
		"f(1,2L,v,u,q);":         {"int", f, "int", "long", s, o, w},
		"put(-1);":               {"int", "int"},
		"put(-l);":               {"long", "long"},
		"put(!i);":               {"int", "int"},
		"put(int(1));":           {"int", "int"},
		"put(int(l));":           {"int", "long"},
		"put(long(i));":          {"long", "int"},
		"put(long(l));":          {"long", "long"},
		"put(i+1);":              {"int", "int", "int"},
		"put(l-1L);":             {"long", "long", "long"},
		"put(l*1L|l&l^l);":       {"long", "long", "long", "long", "long", "long", "long", "long", "long"},
		"put(i/1%i);":            {"int", "int", "int", "int", "int"},
		"put(l==l);":             {"int", "long", "long"},
		"put(i==i);":             {"int", "int", "int"},
		"put(l<l);":              {"int", "long", "long"},
		"put(i<i);":              {"int", "int", "int"},
		"if(i){put(l);}":         {"int", "long"},
		"while(i){put(l);}":      {"int", "long"},
		"int w=1;put(w);":        {"int", "int"},
		"long g=h;g=g;":          {"long", "long", "long"},
		"int w=1;q=&w;":          {"int", w, w},
	} {
		// Behind is the one that is returned; the numbers of g and h, ahead, are no expressions.
		want = append(want, "int")
		if got := told(t, in(text)); !slices.Equal(got, want) {
			t.Errorf("%q: %q", text, got)
		}
	}
}

// G7: nodes that are no expressions (a global's number among them) have none, and all others have one.
func TestWhichHaveTypes(t *testing.T) {
	texts := []string{
		"int f(int a,...){put(count);put(extra(0));return 0;}",
		in("k();v=k();v.a=i+g;if(i){put(-1);}else{put(!i);}while(0){fn(int,long)long z=&w;z(1,2L);}put(int(l));put(long(i));o n=o{s{1,2L},3};"),
	}
	met := map[int]int{}
	for _, text := range texts {
		n, _ := check.Check(text)
		l, _ := check.Types(text)
		count := 0
		for _, p := range order(spots(n, nil, 0, &count)) {
			met[p.Kind]++
			if (l[p.at] != "") != p.isExpression() {
				t.Errorf("%q: node %d: %q", text, p.at, l[p.at])
			}
		}
	}
	for kind := api.NUnit; kind <= api.NExtra; kind++ {
		if met[kind] == 0 && kind != api.NOutside {
			t.Error("not met", kind)
		}
	}
}
