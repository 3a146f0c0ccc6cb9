package lower_test

import (
	"sort"
	"strings"
	"testing"

	"scarfjoint/api"
	"scarfjoint/check"
	"scarfjoint/lower"
)

// greatest gives the text with the most of something that may be: with one more it is too large, or too deep.
func greatest(t *testing.T, text func(n int) string) string {
	t.Helper()
	n := sort.Search(api.MaxText, func(n int) bool {
		_, f := check.Check(text(n))
		if f.Code != api.OK && f.Code != api.ErrSize {
			t.Fatalf("%.300q: %v", text(n), f)
		}
		return f.Code == api.ErrSize
	})
	if n < 2 {
		t.Fatalf("%.300q has no room", text(1))
	}
	return text(n - 1)
}

// around writes something with so many others around it.
func around(before, inner, behind string, n int) string {
	return strings.Repeat(before, n) + inner + strings.Repeat(behind, n)
}

const wide = "struct l{long a;long b;}struct w{l a;l b;l c;}struct i{int a;int b;int c;int d;int e;int f;}struct j{i a;i b;}"

// L1, L2: texts that are nested as deep as they may be.
func TestDeepest(t *testing.T) {
	const ahead = wide + "int g=3;long h=-5L;int f(int a){return a+1;}long o(long a,long b){return a-b;}w u(int n){long k=long(n);return w{l{k,k+1L},l{k+2L,k+3L},l{k+4L,k+5L}};}w v(w a,w b,w c){return w{l{a.b.b,b.c.a},c.a,l{c.b.a,b.a.b}};}fn(int)int q(int n){return &f;}int e(...){return extra(extra(0))+count;}"
	for _, r := range []struct{ before, inner, behind string }{
		{"-", "g", ""},
		{"-", "h", ""},
		{"!", "g", ""},
		{"-!", "g", ""},
		{"long(int(", "h", "))"},
		{"int(long(", "g", "))"},
		{"f(", "g", ")"},
		{"q(", "g", ")(1)"},
		{"e(1,2,", "g", ",3L)"},
		{"o(h,", "h", ")"},
		{"o(", "h", ",h)"},
		{"o(-h*", "h", ",h+1L)"},
		{"g+(", "g", ")"},
		{"(", "g", "-g)"},
		{"h*(", "h", ")"},
		{"(", "h", "*h)"},
		{"h-(", "h", "-h)"},
		{"long(h<(", "h", "))"},
		{"long(h==(", "h", "))"},
		{"long((", "h", ")<h)"},
		{"v(u(1),u(2),", "u(3)", ")"},
		{"v(", "u(3)", ",u(1),u(2))"},
		{"v(u(4),", "u(3)", ",u(2))"},
	} {
		end := ""
		if strings.HasPrefix(r.before, "v") {
			end = ".a.b"
		}
		text := greatest(t, func(n int) string {
			return ahead + "int main(){put(" + around(r.before, r.inner, r.behind, n) + end + ");return 0;}"
		})
		if s := means(t, []string{text}); s.End != api.RunExit {
			t.Errorf("%q: %v", text, s)
		}
	}
	for _, r := range []struct{ before, inner, behind string }{
		{"if(1){", "put(g);", "}"},
		{"if(0){put(1);}else{", "put(g);", "}"},
		{"int x=g;g=g+1;if(x){", "put(g);", "put(x);}else{put(-x);}"},
		{"long x=h;h=h+x;while(0<g){", "put(h);", "put(x);g=g-1;}"},
		{"while(0<g){if(g-1){", "put(g);", "}else{put(9);}g=g-1;}"},
	} {
		text := greatest(t, func(n int) string {
			return ahead + "int main(){" + around(r.before, r.inner, r.behind, n) + "return 0;}"
		})
		if s := means(t, []string{text}); s.End != api.RunExit || len(s.Out) == 0 {
			t.Errorf("%q: %v", text, s)
		}
	}
}

// L1, L2: texts with as many nodes as there may be, of what makes the most orders.
func TestMostNodes(t *testing.T) {
	const ahead = wide + "w u(w a){return w{a.c,a.b,a.a};}int c(w a,w b,w c){return int(a.a.a+b.b.b);}int e(...){return count;}"
	const first = "long h=-5L;int g=3;w x=w{l{1L,2L},l{3L,4L},l{5L,6L}};w y=x;"
	for _, piece := range []string{
		"put(g);",
		"put(h);",
		"g=g;",
		"h=-h;",
		"x=y;",
		"x=w{x.b,x.c,x.a};",
		"x=w{x.c,x.b,x.a};x.a=x.b;",
		"x=u(x);",
		"x.a=u(y).c;",
		"y=u(u(w{x.b,l{h,h},l{h,x.c.b}}));",
		"h=-----------h;",
		"h=(---------h)*(---------h);",
		"h=h*h*h*h*h*h;",
		"h=h+h-h|h^h*h;",
		"g=(h<h)+(h==h);",
		"g=!!!!!!!!g;",
		"h=long(int(long(int(long(g)))));",
		"if(g){w z=x;}",
		"if(g){w z=x;}else{w z=u(x);}",
		"g=g-1;while(g<0){g=0;}",
		"c(x,y,u(x));",
		"e(h,h,h,h,h,h);",
		"h=4611686018427387904L;",
	} {
		text := greatest(t, func(n int) string {
			return ahead + "int main(){" + first + strings.Repeat(piece, n) + "put(h);put(g);put(x.a.a);put(x.b.b);put(x.c.a);return c(x,y,x);}"
		})
		if s := means(t, []string{text}); s.End != api.RunExit || len(s.Out) < 9 {
			t.Errorf("%q: %v", piece, s)
		}
	}
	// Many declarations, and a text of just as many bytes as there may be.
	for _, piece := range []string{"int %=1;", "long %=-9L;", "extern int %;", "extern long %(int a,...);", "static int %(){return 1;}", "struct %{int a;}"} {
		text := greatest(t, func(n int) string {
			all := "int main(){return 1;}"
			for at := range n {
				all += strings.ReplaceAll(piece, "%", string([]byte{byte('a' + at/26), byte('a' + at%26), '0'}))
			}
			return all
		})
		m := madeOf(t, text)
		if n := len(m.Bodies) + len(m.Globals) + len(m.Outsides); n < 100 && piece[:6] != "struct" || n < 1 {
			t.Errorf("%q: %d", piece, n)
		}
	}
	text := "int main(){return 7;}"
	exits(t, []string{text + strings.Repeat(" ", api.MaxText-len(text))}, 7)
}

// L1: values that wait while others are reckoned, as many as there may be, and still each body may be.
func TestMostWaiting(t *testing.T) {
	const ahead = wide + "extern w f(w a,w b,w c,w d,w e,w f,...);extern w g();extern j k(j a,j b,j c,j d,j e,j f,...);extern j h();"
	for _, r := range []struct{ before, inner, behind string }{
		{"f(g(),g(),g(),g(),g(),", "g()", ")"},
		{"f(g(),g(),g(),g(),g(),", "g()", ",g().a.a,g().a.b,g().b.a,g().b.b,g().c.a,g().c.b)"},
		{"f(g(),g(),g(),g(),g(),g(),g().a.a,g().a.b,g().b.a,g().b.b,g().c.a,", "g()", ".c.b)"},
		{"k(h(),h(),h(),h(),h(),", "h()", ")"},
		{"k(h(),h(),h(),h(),h(),h(),1L,2L,3L,4L,5L,", "h()", ".b.f)"},
		{"f(w{g().a,g().b,g().c},w{g().a,g().b,g().c},w{g().a,g().b,g().c},g(),g(),", "g()", ")"},
	} {
		text := greatest(t, func(n int) string {
			return ahead + "int main(){" + around(r.before, r.inner, r.behind, n) + ";return 0;}"
		})
		m := madeOf(t, text)
		if b := m.Bodies[0]; b.Regs < 60 || b.Regs > 1200 {
			t.Errorf("%q: %d registers", r.before, b.Regs)
		}
	}
}

// L1: registers are given back: a function that does much, one thing behind the other, has few.
func TestRegistersAreGivenBack(t *testing.T) {
	for piece, want := range map[string]int{
		"put(1+2*3);":                         4,
		"put(long(1)*2L);":                    12,
		"if(1){int a=1;long b=2L;put(b);}":    12,
		"if(f()){long a=1L;}else{int b=f();}": 8,
		"while(f()){put(f()+f()*f());}":       8,
		"f();":                                4,
		"put(s().a+s().c);":                   12,
		"if(1){t x=s();x=t{x.c,x.b,x.a};}":    12,
		"put(g(1+2,3L));":                     8,
		"put(q()(4+5));":                      8,
		"put(int(2L)+int(3L*4L));":            12,
		"put(extra(1)+extra(2+3)+count);":     8,
	} {
		text := greatest(t, func(n int) string {
			return "struct t{int a;long b;int c;}extern t s();extern int g(int a,long b);extern fn(int)int q();int f(){return 0;}int z(...){" + strings.Repeat(piece, n) + "return 0;}"
		})
		if b := madeOf(t, text).Bodies[1]; b.Regs > want {
			t.Errorf("%q: %d registers", piece, b.Regs)
		}
	}
}

// P1: texts of any bytes, and of any length, end with an answer.
func TestAnyText(t *testing.T) {
	for _, text := range []string{"\x00", "\xff\xfe", "int f(){return \xc3\xa9;}", strings.Repeat("\x00", 1<<20), strings.Repeat("int f(){", 1<<18), strings.Repeat("-", 1<<20)} {
		if m, f := lower.Make(text); f.Code == api.OK || len(m.Bodies)+len(m.Globals)+len(m.Outsides) > 0 {
			t.Errorf("%.60q: %v", text, f)
		}
	}
	const text = "struct s{int a;long b;}extern int e;static long g=-7L;s f(s x,int i,...){if(count){x.a=extra(i);}else{x.b=g;}return x;}int main(){int n=0;while(n<3){put(f(s{n,5L},0,9).b);n=n+1;}return !n;}"
	for at := range len(text) {
		for _, other := range []string{text[:at], text[at:], text[:at] + text[at+1:], text[:at] + ";" + text[at:], text[:at] + " 1 " + text[at:]} {
			_, want := check.Check(other)
			if want.Code != api.OK {
				fails(t, other, want)
			} else {
				madeOf(t, other)
			}
		}
	}
}
