package lower_test

import (
	"slices"
	"strconv"
	"testing"

	"scarfjoint/api"
	"scarfjoint/model"
	"scarfjoint/three"
)

// L2: global variables and functions of two units.
func TestTwoUnits(t *testing.T) {
	exits(t, []string{
		"extern int a;extern long b;extern int f(int x);int c=5;int main(){put(a);put(b);a=a+1;b=b*4294967297L;put(f(3));put(a);put(c);c=7;put(f(c));return c;}",
		"int a=1;long b=-2L;extern int c;int f(int x){put(a);put(b);c=c*x;a=a+10;return x+c;}",
	}, 49, 1, -2, -1, 2, -2, -3, 18, 12, 15, 12, -2, -3, 56)
	exits(t, []string{
		"extern int f(int a);int main(){put(f(3));put((&f)(4));fn(int)int q=&f;return q(5);}",
		"static int g(int a){return a*10;}int f(int b){return g(b)+1;}",
	}, 51, 31, 41)
	// Structs are told from one another by what they are, not by where they are declared.
	exits(t, []string{
		"struct s{int a;long b;}extern s f(s x,int i);int main(){s x=f(s{1,2L},3);put(x.a);put(x.b);return f(x,1).a;}",
		"struct t{int q;}struct s{int a;long b;}s f(s y,int i){t z=t{i};return s{y.a+z.q,y.b*long(z.q)};}",
	}, 5, 4, 6, 0)
	// main may stand in any unit, and be called.
	exits(t, []string{
		"extern int main();extern int n;int again(){n=n-1;if(n){return main();}return 9;}",
		"extern int again();int n=3;int main(){put(n);return again()+1;}",
	}, 12, 3, 2, 1)
}

// L2: static functions and variables of one name in several units, also as values that another unit calls.
func TestStaticOnes(t *testing.T) {
	exits(t, []string{
		"extern fn(int)int k();extern int c(fn(int)int q,int a);static int g(int a){return a+1;}int main(){put(g(1));put(k()(1));put(c(&g,2));return c(k(),2);}",
		"static int g(int a){return a+100;}fn(int)int k(){return &g;}",
		"static int g(int a){return a+1000;}int c(fn(int)int q,int a){return q(a)+g(a);}",
	}, 1104, 2, 101, 1005)
	exits(t, []string{
		"static int v=1;extern int f();int main(){put(v);put(f());v=v+1;put(v);put(f());return v;}",
		"static int v=100;int f(){v=v+1;return v;}",
	}, 2, 1, 101, 2, 102)
	// One that is not static beside static ones of its name, of another kind and type.
	exits(t, []string{
		"extern int v(int a);static int w(){return 0;}int main(){return v(3)+w();}",
		"extern int w();int v(int a){return a+w();}",
		"static long v=7L;int w(){return int(v);}",
	}, 10)
}

// L2: programs of 1 to MaxUnits units, each of which calls the next one, in each order of the units.
func TestMostUnits(t *testing.T) {
	for units := 1; units <= api.MaxUnits; units++ {
		var texts []string
		for at := range units {
			name, next := strconv.Itoa(at), strconv.Itoa(at+1)
			text := "static int s=" + name + ";int g" + name + "=1" + name + ";"
			call := "0"
			if at+1 < units {
				text += "extern int f" + next + "(int n);extern int g" + next + ";"
				call = "f" + next + "(n+1)+g" + next
			}
			text += "int f" + name + "(int n){put(s);s=s+100;g" + name + "=g" + name + "+n;return " + call + ";}"
			if at == 0 {
				text += "int main(){put(f0(1));put(g0);return f0(2);}"
			}
			texts = append(texts, text)
		}
		first := means(t, texts)
		if first.End != api.RunExit || len(first.Out) != 2*units+2 {
			t.Error(units, first)
		}
		for _, row := range permuted(texts) {
			if s := means(t, row); s.Value != first.Value || !slices.Equal(s.Out, first.Out) {
				t.Error(row, s, first)
			}
		}
	}
}

// L2: a program's trouble is its orders' trouble, too, where it lies between units; At is numbered otherwise.
func TestTroubleBetweenUnits(t *testing.T) {
	const main = "int main(){return 1;}"
	for _, r := range []struct {
		texts []string
		want  api.Trouble
	}{
		{[]string{main, main}, api.Trouble{Unit: 1, Code: api.ErrTwice}},
		{[]string{main + "int a=1;", "static int a=1;int b=1;", "int a(){return 1;}"}, api.Trouble{Unit: 2, Code: api.ErrTwice}},
		{[]string{main + "extern int a;extern int f();", "int a=1;static int f(){return 1;}"}, api.Trouble{Unit: 0, Code: api.ErrName, At: 1}},
		{[]string{main, "int a=1;extern long b();", "extern int f();extern long a;", "int f(){return 1;}long b(){return 1L;}"}, api.Trouble{Unit: 2, Code: api.ErrKind, At: 1}},
		{[]string{main, "extern int f();", "int f=1;"}, api.Trouble{Unit: 1, Code: api.ErrKind}},
		{[]string{"static " + main}, api.Trouble{Code: api.ErrName}},
		{[]string{"int main=1;"}, api.Trouble{Code: api.ErrName}},
		{[]string{"int main(...){return 1;}"}, api.Trouble{Code: api.ErrKind}},
	} {
		if f := model.Check(r.texts); f.Code != r.want.Code || f.Unit != r.want.Unit {
			t.Error(r.texts, f)
		}
		if f := three.Check(madeOfAll(t, r.texts)); f != r.want {
			t.Error(r.texts, f, r.want)
		}
	}
}

// L2: fuel 0, 1, and each number up to where the run ends and beyond: the orders told, with 60 n + 60 steps, at least what the text tells with n.
func TestEachFuel(t *testing.T) {
	for _, texts := range [][]string{
		{"int f(int a){put(a);return a+1;}int g=2;int main(){put(1L);g=f(g);while(g<5){g=g+1;put(g);}return g;}"},
		{"int main(){int i=0;while(i<40){put(i);i=i+1;}return 3/0;}"},
		{"struct s{long a;long b;long c;long d;long e;long f;}s f(s x,s y){put(x.a);return s{y.f,y.e,y.d,x.c,x.b,x.a*3L};}int main(){s x=s{1L,2L,3L,4L,5L,6L};s y=x;int i=0;while(i<9){x=f(y,x);y=s{x.b,x.a,y.d,y.c,x.f,y.e};put(y.a);i=i+1;}return i;}"},
		{"extern int f(int n);int main(){put(7);return f(9);}", "extern int g(int n);int f(int n){put(n);return g(n)-1;}", "extern int f(int n);int g(int n){put(-n);if(n){return f(n-1);}return 0;}"},
	} {
		l := madeOfAll(t, texts)
		s, _ := model.Run(texts, api.MaxSteps)
		if s.End == api.RunFuel || s.Steps < 30 {
			t.Error(s)
		}
		for fuel := range s.Steps + 20 {
			agrees(t, texts, l, fuel)
		}
	}
}

// L2: programs without an end, which tell something or nothing; a call is never made of what is no function (RunWrong).
func TestWithoutEnd(t *testing.T) {
	for _, text := range []string{
		"int main(){while(1){}return 0;}",
		"int main(){return main();}",
		"int main(){put(1);main();return 1;}",
		"int f(int a,...){put(a);return f(a+1,count,1L);}int main(){return f(1);}",
		"int main(){int i=0;while(1){int x=1;put(i);i=i+1;if(x){x=2;}}return 0;}",
		"struct s{long a;long b;long c;long d;long e;long f;}s f(s x){put(x.f);return f(f(x));}int main(){f(s{1L,2L,3L,4L,5L,6L});return 0;}",
		"fn()int f(){put(4);return f();}int main(){return f()();}",
	} {
		l := madeOfAll(t, []string{text})
		for _, fuel := range []int{0, 1, 2, 3, 4, 5, 10, 50, 100, 999, api.MaxSteps - 1, api.MaxSteps} {
			agrees(t, []string{text}, l, fuel)
			if s, _ := three.Run(l, 60*fuel+60); s.End != api.RunFuel {
				t.Errorf("%q: %v", text, s.End)
			}
		}
	}
}
