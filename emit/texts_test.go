package emit_test

import (
	"slices"
	"strings"
	"testing"

	"scarfjoint/api"
	"scarfjoint/model"
)

// does holds what statements in main tell.
func does(t *testing.T, ahead, statements string, out ...int32) {
	t.Helper()
	showsText(t, []string{ahead + "int main(){" + statements + "return 0;}"}, 0, out...)
}

// Q2: texts with numbers, operations, choices and loops.
func TestTextsWithNumbers(t *testing.T) {
	does(t, "", "put(6*7);put(7/2);put(-7/2);put(-7%4);put(5-9);put(5<6);put(6<5);put(3==3);put(12&10);put(12|3);put(12^10);put(!5);put(!0);", 42, 3, -3, -3, -4, 1, 0, 1, 8, 15, 6, 0, 1)
	does(t, "long g=-8589934592L;int h=70000;", "put(g);put(g*g);put(g-1L);put(-g);put(int(g-1L));put(long(h));put(long(-h));put(g<0L);put(g==g+0L);h=h*h;put(h);g=g+long(h);put(g);",
		0, -2, 0, 0, -1, -3, 0, 2, -1, 70000, 0, -70000, -1, 1, 1, 605032704, 605032704, -2)
	does(t, "", "int i=0;while(i<4){if(i%2){put(i);}else{put(-i);}i=i+1;}put(i);", 0, 1, -2, 3, 4)
	for _, n := range []string{"0", "0-0", "1-1"} {
		w := meansText(t, []string{"int main(){put(1);int x=5/(" + n + ");put(x);return 0;}"})
		if w.End != api.EndDivided || !slices.Equal(w.Out, []int32{1}) {
			t.Error(n, told(w.Stop))
		}
	}
}

// Q2: texts with structs, and calls of every sort.
func TestTextsWithCalls(t *testing.T) {
	const forms = "struct p{int a;int b;}struct m{int a;long b;int c;}struct n{m x;p y;}struct q{long a;long b;long c;long d;long e;long f;}"
	const tellers = "int pp(p v){put(v.a);put(v.b);return 0;}int pm(m v){put(v.a);put(v.b);put(v.c);return 0;}int pn(n v){pm(v.x);pp(v.y);return 0;}"
	does(t, forms+tellers+"p f(p v){v.a=v.a*10;return v;}", "p x=p{1,2};pp(f(x));pp(x);x=f(f(x));pp(x);put(f(p{7,8}).a);", 10, 2, 1, 2, 100, 2, 70)
	does(t, forms+tellers+"m f(int i,m v,long j,m w){return m{i+v.a,v.b+j,w.c};}", "pm(f(1,m{2,3L,4},5L,m{6,7L,8}));m x=m{1,1L,1};x=f(2,x,3L,f(4,x,5L,x));pm(x);pm(f(1,x,x.b,m{x.c,x.b,9}));", 3, 8, 0, 8, 3, 4, 0, 1, 4, 8, 0, 9)
	does(t, forms+tellers+"n f(n v,p w){v.y=w;v.x.c=w.a;return v;}", "n x=f(n{m{1,2L,3},p{4,5}},p{6,7});pn(x);x=f(x,p{x.x.a,x.x.c});pn(x);put(f(x,x.y).x.c);", 1, 2, 0, 6, 6, 7, 1, 2, 0, 1, 1, 6, 1)
	does(t, forms+"q f(q x,q y,int z,q w){return q{y.f,x.a+w.c,long(z),y.b,w.e,x.f};}", "q x=q{1L,2L,3L,4L,5L,6L};x=f(x,f(x,x,7,x),8,x);put(x.a);put(x.b);put(x.c);put(x.d);put(x.e);put(x.f);", 6, 0, 4, 0, 8, 0, 4, 0, 5, 0, 6, 0)
	does(t, "int f(int a,long b,int c,int d,long e,int g){put(a);put(b);put(c);put(d);put(e);put(g);a=g;b=e;put(a);put(b);return c;}", "put(f(1,2L,3,4,5L,6));", 1, 2, 0, 3, 4, 5, 0, 6, 6, 5, 0, 3)
	does(t, "int f(int n,...){put(count);int i=-1;while(i<count+1){put(extra(i));i=i+1;}return n;}", "put(f(9));f(8,4294967298L,3,-1L);f(7,1L,2L,3L,4L,5L,6L);", 0, 0, 0, 9, 5, 0, 2, 1, 3, -1, -1, 0, 12, 0, 1, 0, 2, 0, 3, 0, 4, 0, 5, 0, 6, 0, 0)
	// What is told within what is told is ahead of it, and a variable is read where it stands.
	does(t, "int g=1;int f(int a){put(a);g=g*10+a;return a;}", "put(f(1)+f(2)*f(3)-f(4));put(g+f(5));put(f(6)+g);", 1, 2, 3, 4, 3, 5, 11239, 6, 1123462)
	// Calls within calls.
	does(t, "int f(int a,int b,int c,int d,int e){return a+b*2+c*3+d*4+e*5;}", "put(f(f(1,2,3,4,5),f(1,1,1,1,1),3,f(0,0,0,0,f(1,0,0,0,0)),2));", 55+30+9+20+10)
}

// Q2: texts with functions as words.
func TestTextsWithFunctions(t *testing.T) {
	const f = "int a(int x){return x+1;}int b(int x){return x*2;}fn(int)int pick(int n){if(n){return &a;}return &b;}int twice(fn(int)int q,int x){return q(q(x));}fn(fn(int)int,int)int which(){return &twice;}"
	does(t, f, "put(pick(1)(5));put(pick(0)(5));put(twice(&a,5));put(twice(pick(0),5));put(which()(&b,3));put(which()(pick(1),which()(&b,1)));", 6, 10, 7, 20, 12, 6)
	does(t, f, "fn(int)int q=&a;put(q(1));q=&b;put(q(1));q=pick(q(0)+1);put(q(9));fn(fn(int)int,int)int w=which();put(w(q,1));w=&twice;put(w(&b,1));", 2, 2, 10, 3, 4)
	does(t, "int f(){put(3);return 4;}fn()int once(){return &f;}fn()fn()int more(){return &once;}", "put(more()()());put(once()());", 3, 4, 3, 4)
	does(t, "struct h{int k;fn(int)int f;long l;fn(long,...)long g;}int a(int x){return x+1;}int b(int x){return x*2;}long c(long x,...){return x+long(count*100+extra(1));}h m(h x,fn(int)int f){x.f=f;return x;}",
		"h x=h{1,&a,2L,&c};put(x.f(5));put(x.g(x.l,7,8));x.f=&b;put(x.f(5));h y=x;y.f=&a;put(y.f(x.f(3)));put(y.g(1L));put(m(m(x,&a),x.f).f(x.k));", 6, 210, 0, 10, 7, 1, 0, 2)
	// Of several units, static ones of one name among them.
	showsText(t, []string{
		"extern fn(int)int k();extern int c(fn(int)int q,int a);static int g(int a){return a+1;}int main(){put(g(1));put(k()(1));put(c(&g,2));return c(k(),2);}",
		"static int g(int a){return a+100;}fn(int)int k(){return &g;}",
		"static int g(int a){return a+1000;}int c(fn(int)int q,int a){return q(a)+g(a);}",
	}, 1104, 2, 101, 1005)
}

// Q2: texts of several units.
func TestTextsOfUnits(t *testing.T) {
	showsText(t, []string{
		"extern int a;extern long b;extern int f(int x);int c=5;int main(){put(a);put(b);a=a+1;b=b*4294967297L;put(f(3));put(a);put(c);c=7;put(f(c));return c;}",
		"int a=1;long b=-2L;extern int c;int f(int x){put(a);put(b);c=c*x;a=a+10;return x+c;}",
	}, 49, 1, -2, -1, 2, -2, -3, 18, 12, 15, 12, -2, -3, 56)
	showsText(t, []string{
		"struct s{int a;long b;}extern s f(s x,int i);int main(){s x=f(s{1,2L},3);put(x.a);put(x.b);return f(x,1).a;}",
		"struct t{int q;}struct s{int a;long b;}s f(s y,int i){t z=t{i};return s{y.a+z.q,y.b*long(z.q)};}",
	}, 5, 4, 6, 0)
	showsText(t, []string{
		"extern int main();extern int n;int again(){n=n-1;if(n){return main();}return 9;}",
		"extern int again();int n=3;int main(){put(n);return again()+1;}",
	}, 12, 3, 2, 1)
	showsText(t, []string{"extern int v(int a);static int w(){return 0;}int main(){return v(3)+w();}", "extern int w();int v(int a){return a+w();}", "static long v=7L;int w(){return int(v);}", ""}, 10)
}

// Q2: texts with recursion, as deep as the model has steps for it, and without an end: there is no room on the stack then, and what was told till then is what the text tells.
func TestTextsThatGoDeep(t *testing.T) {
	showsText(t, []string{"int f(int n){if(n){return f(n-1)+1;}return 0;}int main(){put(f(0));put(f(1));return f(200);}"}, 200, 0, 1)
	showsText(t, []string{"int f(int n){if(n<2){return n;}return f(n-1)+f(n-2);}int main(){put(f(1));put(f(7));return f(5);}"}, 5, 1, 13)
	for _, c := range []struct {
		text string
		full bool
	}{
		{"int main(){put(1);main();return 1;}", true},
		{"int f(int a,...){put(a);return f(a+1,count,1L);}int main(){return f(1);}", true},
		{"struct s{long a;long b;long c;long d;long e;long f;}s f(s x){put(x.f);return f(f(x));}int main(){f(s{1L,2L,3L,4L,5L,6L});return 0;}", true},
		{"int main(){return main();}", false},
		{"int f(int n){put(n);return f(n+1);}int main(){return f(0);}", false},
		{"int main(){while(1){}return 0;}", false},
		{"fn()int f(){put(4);return f();}int main(){return f()();}", false},
	} {
		w := meansText(t, []string{c.text})
		want := api.EndFuel
		if c.full {
			want = api.EndFull
		}
		shown, _ := model.Run([]string{c.text}, api.MaxSteps)
		if w.End != want || !begins(w.Out, shown.Out) && !begins(shown.Out, w.Out) {
			t.Errorf("%q: %s", c.text, told(w.Stop))
		}
	}
}

// Q2: texts that do much in one function, so that many registers are in use, and what is used is asked for again.
func TestTextsWithMuch(t *testing.T) {
	const ahead = "struct l{long a;long b;}struct w{l a;l b;l c;}w u(w a){return w{a.c,a.b,a.a};}int c(w a,w b,w c){return int(a.a.a+b.b.b+c.c.a);}int e(...){return count;}"
	const first = "long h=-5L;int g=3;w x=w{l{1L,2L},l{3L,4L},l{5L,6L}};w y=x;"
	const last = "put(h);put(g);put(x.a.a);put(x.b.b);put(x.c.a);return c(x,y,x);}"
	for _, piece := range []string{
		"put(g);", "h=-h;", "x=y;", "x=w{x.b,x.c,x.a};", "x=w{x.c,x.b,x.a};x.a=x.b;", "x=u(x);", "x.a=u(y).c;", "y=u(u(w{x.b,l{h,h},l{h,x.c.b}}));",
		"h=(---------h)*(---------h);", "h=h*h*h*h*h*h;", "h=h+h-h|h^h*h;", "g=(h<h)+(h==h);", "g=!!!!!!!!g;", "h=long(int(long(int(long(g)))));",
		"if(g){w z=x;}else{w z=u(x);}", "g=g-1;while(g<0){g=0;}", "c(x,y,u(x));", "e(h,h,h,h,h,h);", "h=4611686018427387904L;",
		"g=g+(g+(g+(g+(g+(g+(g+(g+(g+(g+g)))))))));", "h=h+(h+(h+(h+(h+(h+(h+(h+h)))))));", "g=c(w{x.a,x.a,x.a},u(y),u(u(x)));",
	} {
		for _, n := range []int{1, 2, 7, 20} {
			w := meansText(t, []string{ahead + "int main(){" + first + strings.Repeat(piece, n) + last})
			if w.End != api.EndExit || len(w.Out) < 9 {
				t.Errorf("%q: %s", piece, told(w.Stop))
			}
		}
	}
	for _, r := range []struct{ before, inner, behind string }{
		{"v(u(1),u(2),", "u(3)", ")"}, {"v(", "u(3)", ",u(1),u(2))"}, {"v(u(4),", "u(3)", ",u(2))"},
	} {
		const deep = "struct l{long a;long b;}struct w{l a;l b;l c;}w u(int n){long k=long(n);return w{l{k,k+1L},l{k+2L,k+3L},l{k+4L,k+5L}};}w v(w a,w b,w c){return w{l{a.b.b,b.c.a},c.a,l{c.b.a,b.a.b}};}"
		for n := range 8 {
			text := deep + "int main(){put(" + strings.Repeat(r.before, n) + r.inner + strings.Repeat(r.behind, n) + ".a.b);return 0;}"
			if w := meansText(t, []string{text}); w.End != api.EndExit || len(w.Out) != 2 {
				t.Errorf("%q: %s", text, told(w.Stop))
			}
		}
	}
}
