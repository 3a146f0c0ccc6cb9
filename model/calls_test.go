package model_test

import (
	"strings"
	"testing"

	"scarfjoint/api"
)

// H3: functions of other units, and static ones of one name, called and as values.
func TestFunctionsOfUnits(t *testing.T) {
	exits(t, []string{
		"extern int f(int a);int main(){put(f(3));put((&f)(4));fn(int)int q=&f;return q(5);}",
		"static int g(int a){return a*10;}int f(int b){return g(b)+1;}",
	}, 51, (3+9)+(4+9)+2+(4+9), 31, 41)
	exits(t, []string{
		"extern fn(int)int k();extern int c(fn(int)int q,int a);static int g(int a){return a+1;}int main(){put(g(1));put(k()(1));put(c(&g,2));return c(k(),2);}",
		"static int g(int a){return a+100;}fn(int)int k(){return &g;}",
		"static int g(int a){return a+1000;}int c(fn(int)int q,int a){return q(a)+g(a);}",
	}, 1104, (3+4)+(1+1+3+1+4)+(4+15)+(1+1+3+1+15), 2, 101, 1005)
	// What is static in one unit hides nothing of another one.
	exits(t, []string{
		"extern int f();int main(){return f();}",
		"static int f(){return 1;}int g(){return f();}",
		"extern int g();int f(){return g()+10;}",
	}, 11, 2+4+2+2)
	// Structs cross units, and have their fields where each unit declares them.
	exits(t, []string{
		"struct z{int q;}struct s{int a;long b;}extern s f(s x);int main(){s v=f(s{1,2L});put(v.a);put(v.b);return 0;}",
		"struct s{int a;long b;}s f(s x){x.b=x.b+long(x.a);return s{x.a+5,x.b};}",
	}, 0, (1+1+3)+(1+1+2+1+2)+(1+1+4+2)+3+3+2, 6, 3, 0)
}

// H3: global variables, of one's own unit, of another one, and static ones of one name.
func TestGlobals(t *testing.T) {
	exits(t, []string{"int a=5;long b=-6L;static int c=-2147483647;int main(){put(a);put(b);put(c);return 0;}"}, 0, 8, 5, -6, -1, -2147483647)
	exits(t, []string{"int a=5;int f(){a=a+1;return a;}int main(){f();put(a);a=a*2;put(f());return a;}"}, 13, (2+6)+2+4+(2+6)+2, 6, 13)
	exits(t, []string{
		"extern int a;extern int f();static int s=1;int main(){put(a);put(s);a=8;s=9;put(f());put(a);return s;}",
		"int a=-7;static int s=2;int f(){put(a);put(s);s=s+40;a=50;return s;}",
	}, 9, 2+2+2+2+(2+2+2+4+2+2)+2+2, -7, 1, 8, 2, 42, 50)
	// A third unit has it, which is asked for by two.
	exits(t, []string{
		"extern long b;extern int f();int main(){b=b+1L;f();put(b);return 0;}",
		"extern long b;int f(){b=-b;return 0;}",
		"static int b2=1;long b=4294967295L;",
	}, 0, 4+(2+3+2)+2+2, 0, -1)
	// A variable that is static in one unit, and that two others share.
	exits(t, []string{
		"extern int g;extern int f();int main(){g=g+1;put(f());return g;}",
		"static int g=100;int f(){g=g+1;return g;}",
		"int g=7;",
	}, 8, 4+(2+4+2)+2, 101)
	// Each run has them anew.
	for range 2 {
		exits(t, []string{"int a=5;int main(){a=a+1;return a;}"}, 6, 6)
	}
	// Locals and parameters hide them, structs do not.
	exits(t, []string{"int a=5;struct a{int a;}int f(int a){a=a+1;return a;}int g(){return a;}int main(){put(f(1));int a=9;put(g());put(a{3}.a);a=10;put(g());return a;}"},
		10, (3+6)+2+(2+2)+4+2+(2+2)+2, 2, 5, 3, 5)
}

const sums = "int n(int a,...){return count;}int x(int i,...){return extra(i);}int y(...){put(count);put(extra(0));put(extra(1));put(extra(2));put(extra(3));return count;}"

// H4: the words beyond: count and extra at each number, below 0 and beyond.
func TestWordsBeyond(t *testing.T) {
	tellAll(t, sums, []told{
		{"n(0)", 2 + 2, one(0)},
		{"n(0,7)", 3 + 2, one(1)},
		{"n(0,7L)", 3 + 2, one(2)},
		{"n(0,1,2L,3)", 5 + 2, one(4)},
		{"n(0,1,2,3,4,5,6)", 8 + 2, one(6)},
		{"n(0,1L,2L,3L,4L,5L,6L)", 8 + 2, one(12)},
		{"x(0)", 2 + 3, one(0)},
		{"x(0,7)", 3 + 3, one(7)},
		{"x(1,7)", 3 + 3, one(0)},
		{"x(-1,7)", 4 + 3, one(0)},
		{"x(0-2147483647-1,7)", 7 + 3, one(0)},
		{"x(2147483647,7)", 3 + 3, one(0)},
	})
	for i, want := range []int32{5, -6, -1, 7, 8, 1, least, 0, 0} {
		// 5; -6L; 7; 4294967304L is 8 and 1; the least int.
		does(t, sums, "put(x("+decimal(int32(i))+",5,-6L,7,4294967304L,0-2147483647-1));", 1+2+1+2+1+1+5+3, want)
	}
	does(t, sums, "y();", 1+1+2+3*4+2, 0, 0, 0, 0, 0)
	does(t, sums, "y(9L,-1);", 1+1+1+2+2+3*4+2, 3, 9, 0, -1, 0)
	does(t, sums, "fn(...)int q=&y;q(1,2);", 2+1+1+1+2+2+3*4+2, 2, 1, 2, 0, 0)
	// Each call has its own ones, also behind a call that it makes.
	does(t, sums+"int z(int a,...){put(n(0,1,2,3));put(count);put(extra(0));if(a){z(a-1,count,9);}put(extra(0));return count;}", "put(z(1,5L));",
		1+3+8+2+3+2+(1+1+3+1+1)+(8+2+3+2+3+2)+3+2, 3, 2, 5, 3, 2, 2, 2, 5, 2)
	// A word beyond is itself no parameter, and no parameter is one of them.
	exits(t, []string{"extern int sum(long a,int b,...);int main(){return sum(100L,10,1,2L);}", "int sum(long a,int b,...){return int(a)+b+count*1000+extra(0)+extra(1)+extra(2);}"},
		3113, 2+4+1+5+2+1+3+6)
}

// H4: locals: of inner blocks, hidden ones, new ones at each turn.
func TestLocals(t *testing.T) {
	does(t, "", "int x=1;if(1){int x=2;put(x);x=3;put(x);}put(x);", 2+2+2+2+2+2+2, 2, 3, 1)
	does(t, "", "int x=1;if(1){put(x);int x=x+1;put(x);}put(x);", 2+2+2+4+2+2, 1, 2, 1)
	does(t, "", "int x=1;if(1){x=4;int x=2;x=3;}put(x);", 2+2+2+2+2+2, 4)
	does(t, "", "int x=1;if(0){int x=2;}else{int x=3;put(x);}put(x);", 2+2+2+2+2, 3, 1)
	does(t, "", "int x=1;if(1){long x=2L;if(1){put(x);int x=3;put(x);}put(x);}put(x);", 2+2+2+2+2+2+2+2+2, 2, 0, 3, 2, 0, 1)
	// A name of a block that ended is free again, and of another type.
	does(t, "", "if(1){int x=2;put(x);}long x=3L;put(x);if(1){int y=4;put(y);}put(x);", 2+2+2+2+2+2+2+2+2, 2, 3, 0, 4, 3, 0)
	// At each turn the outer one is seen again, till the new one is there.
	does(t, "", "int i=2;int x=7;while(i){put(x);int x=i;x=x+10;put(x);i=i-1;}put(x);", 2+2+1+2*(1+2+2+4+2+4)+1+2, 7, 12, 7, 11, 7)
	does(t, "", "int i=2;while(i){int x=0;x=x+1;put(x);i=i-1;}", 2+1+2*(1+2+4+2+4)+1, 1, 1)
	// Parameters are locals of each call by itself.
	does(t, "int f(int a){if(a){int b=a;f(a-1);put(b);}put(a);return 0;}", "f(2);", (1+1+1)+2*(2+2+(1+1+3)+2+2+2)+(2+2+2), 0, 1, 1, 2, 2)
	does(t, "int f(int a,int b){a=a+b;b=0;return a;}", "int a=1;int b=2;put(f(b,a));put(a);put(b);", 2+2+(1+1+2+4+2+2)+2+2, 3, 1, 2)
}

// H4: a return ends its function's call, out of blocks and loops, and that call alone.
func TestReturns(t *testing.T) {
	does(t, "int f(int a){if(a){return 1;}else{return 2;}return 3;}", "put(f(0));put(f(9));", 2*(3+2+2), 2, 1)
	does(t, "int f(){while(1){if(1){while(1){return 4;}}}return 5;}", "put(f());put(6);", 2+(2+2+2+2)+2, 4, 6)
	does(t, "int f(){return 1;put(9);return 2;}", "put(f());", 2+2, 1)
	does(t, "int f(int a){int i=0;while(1){if(i==a){return i*10;}i=i+1;}return 0;}", "put(f(2));", 3+2+1+3*(1+4)+2*4+4, 20)
	exits(t, []string{"int main(){if(1){return 7;}put(1);return 8;}"}, 7, 4)
	exits(t, []string{"int main(){return -7;}"}, -7, 3)
	exits(t, []string{"int main(){return 0-2147483647-1;}"}, least, 6)
	// A call that returns inside another one's arguments.
	does(t, "int f(int a){if(a){return a;}return 9;}", "put(f(f(f(0))));", 1+1+1+1+1+(2+2)+2*(2+2), 9)
}

// H4: kids are done in order: what is called ahead of its arguments, these from the left, each ahead of the node.
func TestOrder(t *testing.T) {
	const e = "int e(int n){put(n);return n;}long l(long n){put(n);return n;}fn(int,int)int k(int n){put(n);return &a;}"
	const a = "int a(int x,int y){put(x*10+y);return x-y;}struct s{int a;int b;}"
	const each = 2 + 4 // e of a number: the call, the number, and what it does
	does(t, a+e, "put(a(e(1),e(2)));", 1+1+2*each+6+4, 1, 2, 12, -1)
	does(t, a+e, "put(k(7)(e(1),e(2)));", 1+1+each+2*each+6+4, 7, 1, 2, 12, -1)
	does(t, a+e, "put(e(1)-e(2));", 2+2*each, 1, 2, -1)
	does(t, a+e, "put(e(1)+e(2)*e(3));", 3+3*each, 1, 2, 3, 7)
	does(t, a+e, "put(l(1L)<l(2L));", 2+2*each, 1, 0, 2, 0, 1)
	does(t, a+e, "put(s{e(1),e(2)}.a);", 3+2*each, 1, 2, 1)
	does(t, a+e, "s v=s{e(1),e(2)};put(v.b);", 2+2*each+3, 1, 2, 2)
	does(t, a+e, "put(long(e(1)));put(-e(2));put(!e(3));put(int(l(4L)));", 8+4*each, 1, 1, 0, 2, -2, 3, 0, 4, 0, 4)
	does(t, a+e, "if(e(0)){e(1);}else{e(2);}", 1+each+1+each, 0, 2)
	does(t, "int m(int a,...){return extra(a);}"+a+e, "put(m(e(1),e(2),l(3L),e(4)));", 2+4*each+3, 1, 2, 3, 0, 4, 3)
	// What a call does to a variable is seen from then on.
	const g = "int g=1;int f(int n){g=g+n;return g;}"
	does(t, g, "put(g+f(1)*10);", 4+(2+6)+1, 21)
	does(t, g, "put(f(1)*10+g);", 4+(2+6)+1, 22)
	does(t, g, "g=g+f(5);put(g);", 1+1+1+(2+6)+2, 7)
	does(t, g, "while(f(1)<4){put(g);}put(g);", 1+3*(2+(2+6))+2*2+2, 2, 3, 4)
	does(t, g+"int h(int a,int b,int c){return a*100+b*10+c;}", "put(h(g,f(1),g));", 1+1+1+(2+6)+1+(1+9), 122)
	// The place is set behind the expression: what a call made of it is lost.
	does(t, "int g=1;int f(){g=100;return 3;}", "g=f();put(g);", 1+1+(2+2)+2, 3)
	// What a run tells inside an expression that is told stands ahead of it.
	does(t, "int f(int n){put(n);if(n){put(f(n-1));}return n+50;}", "put(f(2));", 1+2+2*(2+2+(1+1+3)+4)+(2+2+4), 2, 1, 0, 50, 51, 52)
}

// H2: main is called as any function is, and may be called again.
func TestMainAgain(t *testing.T) {
	exits(t, []string{"int n=0;int main(){n=n+1;if(n<3){return main()+10;}return n;}"}, 23, 3*(4+4)+2*4+2)
	exits(t, []string{"extern int main();int f(){return (&main)();}", "static int d=0;extern int f();int main(){if(d){return 5;}d=1;return f();}"}, 5, 2+2+2+3+4)
}

// H5: each way in which a run ends, with what it told ahead of that.
func TestEnds(t *testing.T) {
	const text = "int main(){put(1);put(-2L);put(4/Z);while(Y){}return 9;}"
	for zy, want := range map[[2]string]api.Shown{
		{"1", "0"}: {End: api.RunExit, Value: 9, Steps: 13, Out: []int32{1, -2, -1, 4}},
		{"0", "0"}: {End: api.RunDivided, Steps: 9, Out: []int32{1, -2, -1}},
		{"1", "1"}: {End: api.RunFuel, Steps: 100, Out: []int32{1, -2, -1, 4}},
	} {
		shows(t, []string{strings.NewReplacer("Z", zy[0], "Y", zy[1]).Replace(text)}, 100, want)
	}
}
