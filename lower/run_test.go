package lower_test

import (
	"slices"
	"strconv"
	"strings"
	"testing"

	"scarfjoint/api"
	"scarfjoint/word"
)

// L2: numbers, signs and what is turned into another type.
func TestUnary(t *testing.T) {
	tellAll(t, "int g=-9;long h=-8589934592L;", []told{
		{"0", one(0)},
		{"2147483647", one(most)},
		{"0L", pair(0, 0)},
		{"4294967295L", pair(-1, 0)},
		{"4294967296L", pair(0, 1)},
		{"9223372036854775807L", pair(-1, most)},
		{"g", one(-9)},
		{"h", pair(0, -2)},
		{"-5", one(-5)},
		{"--5", one(5)},
		{"-0", one(0)},
		{"-(-2147483647-1)", one(least)},
		{"-g", one(9)},
		{"-5L", pair(-5, -1)},
		{"--5L", pair(5, 0)},
		{"-0L", pair(0, 0)},
		{"-1L", pair(-1, -1)},
		{"-4294967296L", pair(0, -1)},
		{"-4294967297L", pair(-1, -2)},
		{"-(-9223372036854775807L-1L)", pair(0, least)},
		{"-h", pair(0, 2)},
		{"!0", one(1)},
		{"!1", one(0)},
		{"!7", one(0)},
		{"!-1", one(0)},
		{"!(-2147483647-1)", one(0)},
		{"!!7", one(1)},
		{"!!0", one(0)},
		{"int(3)", one(3)},
		{"int(-3)", one(-3)},
		{"int(3L)", one(3)},
		{"int(4294967298L)", one(2)},
		{"int(4294967295L)", one(-1)},
		{"int(-4294967296L)", one(0)},
		{"int(2147483648L)", one(least)},
		{"int(h-1L)", one(-1)},
		{"long(0)", pair(0, 0)},
		{"long(3)", pair(3, 0)},
		{"long(2147483647)", pair(most, 0)},
		{"long(-3)", pair(-3, -1)},
		{"long(-2147483647-1)", pair(least, -1)},
		{"long(g)", pair(-9, -1)},
		{"long(3L)", pair(3, 0)},
		{"long(-4294967296L)", pair(0, -1)},
		{"long(int(4294967295L))", pair(-1, -1)},
		{"long(int(long(int(h))))", pair(0, 0)},
		{"((7))", one(7)},
		{"1+2*3-4", one(3)},
		{"10-4-3", one(3)},
		{"100/10/2", one(5)},
		{"1+1==2", one(1)},
	})
}

// edges are longs at whose words something begins or ends.
var edges = []int64{
	0, 1, 2, 3, -1, -2, 7, -7, 65535, 65536, -65536, most - 1, most, most + 1, least, least + 1, least - 1,
	1<<32 - 2, 1<<32 - 1, 1 << 32, 1<<32 + 1, -1 << 32, -1<<32 - 1, -1<<32 + 1, 1<<33 + 5, 6700417 * 641, 123456789123456789, -98765432198765432,
	1<<62 - 1, 1 << 62, 1<<63 - 2, 1<<63 - 1, -1 << 63, -1<<63 + 1,
}

// ofInt and ofLong write a number as an expression: the least one has no sign of its own.
func ofInt(n int32) string {
	if n == least {
		return "(-2147483647-1)"
	}
	return strconv.Itoa(int(n))
}

func ofLong(n int64) string {
	if n == -1<<63 {
		return "(-9223372036854775807L-1L)"
	}
	return strconv.FormatInt(n, 10) + "L"
}

// signs are the operations of both types, in the order in which the functions of these tests tell them.
var signs = []struct {
	text string
	op   int
}{{"+", api.OpAdd}, {"-", api.OpSub}, {"*", api.OpMul}, {"&", api.OpAnd}, {"|", api.OpOr}, {"^", api.OpXor}, {"<", api.OpLess}, {"==", api.OpSame}}

// each writes a function f that tells all operations of two parameters.
func each(typ string) string {
	text := "int f(" + typ + " a," + typ + " b){"
	for _, s := range signs {
		text += "put(a" + s.text + "b);"
	}
	return text + "return 0;}"
}

// L2: each operation on ints at their edges, held against chapter 1 itself.
func TestOperationsOnInts(t *testing.T) {
	for _, x := range edges {
		a, calls, want := int32(x), "", []int32{}
		for _, y := range edges {
			b := int32(y)
			calls += "f(" + ofInt(a) + "," + ofInt(b) + ");"
			for _, s := range signs {
				n, _ := word.Op(s.op, a, b)
				want = append(want, n)
			}
		}
		does(t, each("int"), calls, want...)
	}
}

// L2: each operation on longs at their edges, held against chapter 1 itself.
func TestOperationsOnLongs(t *testing.T) {
	for _, a := range edges {
		calls, want := "", []int32{}
		for _, b := range edges {
			calls += "f(" + ofLong(a) + "," + ofLong(b) + ");"
			for _, s := range signs {
				n, _ := word.Wide(s.op, a, b)
				low, high := word.Split(n)
				want = append(want, low)
				if s.op != api.OpLess && s.op != api.OpSame {
					want = append(want, high)
				}
			}
		}
		does(t, each("long"), calls, want...)
	}
}

// L2: what divides, at the edges of ints, and what divides by 0.
func TestDivisions(t *testing.T) {
	for _, x := range edges {
		a, calls, want := int32(x), "", []int32{}
		for _, y := range edges {
			b := int32(y)
			q, ok := word.Op(api.OpDiv, a, b)
			r, _ := word.Op(api.OpRem, a, b)
			if ok {
				calls += "f(" + ofInt(a) + "," + ofInt(b) + ");"
				want = append(want, q, r)
			}
		}
		const f = "int f(int a,int b){put(a/b);put(a%b);return 0;}"
		does(t, f, calls, want...)
		for _, sign := range []string{"/", "%"} {
			s := means(t, []string{"int main(){put(5);put(" + ofInt(a) + sign + "0);return 9;}"})
			if s.End != api.RunDivided || !slices.Equal(s.Out, one(5)) {
				t.Error(a, sign, s)
			}
		}
	}
}

// L2: operations on longs whose sides are the same, or one of which becomes what they tell.
func TestOperationsOnThemselves(t *testing.T) {
	for _, s := range signs[:6] {
		o := strings.ReplaceAll("int f(long a,long b){long x=a;x=x+x;put(x);x=a;x=x+b;put(x);x=b;x=a+x;put(x);return 0;}", "+", s.text)
		calls, want := "", []int32{}
		for at, a := range edges {
			b := edges[(at*7+3)%len(edges)]
			calls += "f(" + ofLong(a) + "," + ofLong(b) + ");"
			same, _ := word.Wide(s.op, a, a)
			both, _ := word.Wide(s.op, a, b)
			for _, n := range []int64{same, both, both} {
				low, high := word.Split(n)
				want = append(want, low, high)
			}
		}
		does(t, o, calls, want...)
	}
	does(t, "", "long x=4294967297L;x=-x;put(x);put(x<x);put(x==x);x=long(int(x));put(x);int y=5;y=-y;put(y);y=y-y*y;put(y);y=!y;put(y);", -1, -2, 0, 1, -1, -1, -5, -30, 0)
}

// L2, H4: a division by 0 ends the run behind both of its sides, wherever it stands; what was told stays, and nothing more is told.
func TestDivided(t *testing.T) {
	for _, r := range []struct {
		ahead, statements string
		out               []int32
	}{
		{"", "return 1/0;", nil},
		{"", "return 0/0;", nil},
		{"", "put(5);put(6/(3-3));return 9;", one(5)},
		{"int f(){put(7);return 0;}", "put(5);put(1%f());return 9;", pair(5, 7)},
		{"int f(){put(7);return 0;}", "put(1/0+f());return 9;", nil},
		{"int f(){put(7);return 0;}", "put(f()+1/0);return 9;", one(7)},
		{"int f(){put(7);return 1/0;}", "put(f());return 9;", one(7)},
		{"int g=0;int f(int n){put(n);if(n){return f(n-1);}return 1/g;}", "return f(2);", []int32{2, 1, 0}},
		{"", "while(1){put(3);if(1/0){put(1);}}return 9;", one(3)},
		{"", "while(1%0){put(1);}return 9;", nil},
		{"", "int x=1/0;put(x);return 9;", nil},
		{"int g=3;", "g=g/0;put(g);return 9;", nil},
		{"int f(int a,...){put(a);return 0;}", "f(1,2,3/0);return 9;", nil},
		// What no one asks for is reckoned all the same.
		{"int f(int a){return 1;}", "f(1/0);return 9;", nil},
		{"struct s{int a;int b;}", "put(s{1,1/0}.a);return 9;", nil},
		{"struct s{int a;int b;}", "s x=s{1%0,1};put(x.b);return 9;", nil},
		{"struct s{int a;int b;}", "put(1);s x=s{1,2};x.a=x.b/0;return 9;", one(1)},
		{"", "put(int(long(1/0)));return 9;", nil},
		{"int f(...){return extra(1/0);}", "put(1);put(f());return 9;", one(1)},
	} {
		s := means(t, []string{r.ahead + "int main(){" + r.statements + "}"})
		if s.End != api.RunDivided || s.Value != 0 || !slices.Equal(s.Out, r.out) {
			t.Errorf("%q: %v", r.statements, s)
		}
	}
}

// L2: each kind of statement.
func TestStatements(t *testing.T) {
	does(t, "", "")
	does(t, "", "int x=5;put(x);", 5)
	does(t, "", "long x=5L;put(x);", 5, 0)
	does(t, "", "int x=5;x=6;put(x);", 6)
	does(t, "", "int x=5;x=x;put(x);", 5)
	does(t, "", "int x=5;x=x+1;put(x);", 6)
	does(t, "", "int x=5;int y=x;x=6;put(y);put(x);", 5, 6)
	does(t, "", "long x=5L;long y=x;x=y+4294967296L;put(y);put(x);", 5, 0, 5, 1)
	does(t, "", "int x=-5;long y=long(x);x=6;put(y);put(x);", -5, -1, 6)
	does(t, "", "long x=21474836487L;int y=int(x);x=6L;put(y);put(x);", 7, 6, 0)
	does(t, "int g=1;long h=2L;", "g=3;h=4L;put(g);put(h);g=g+1;h=h*4294967296L;put(g);put(h);", 3, 4, 0, 4, 0, 4)
	does(t, "int f(){put(1);return 5;}", "f();", 1)
	does(t, "", "if(1){}")
	does(t, "", "if(0){}else{}")
	does(t, "", "if(1){put(1);}", 1)
	does(t, "", "if(0){put(1);}")
	does(t, "", "if(1){put(1);}else{put(2);}", 1)
	does(t, "", "if(0){put(1);}else{put(2);}put(3);", 2, 3)
	does(t, "", "if(-1){put(1);}else{put(2);}put(3);", 1, 3)
	does(t, "", "if(2147483647+2147483647+2){put(1);}else{put(2);}", 2)
	does(t, "", "int x=0;if(x){put(1);}else{if(!x){put(2);}else{put(3);}put(4);}put(5);", 2, 4, 5)
	does(t, "", "while(0){put(1);}put(2);", 2)
	does(t, "", "int x=3;while(x){put(x);x=x-1;}put(x);", 3, 2, 1, 0)
	does(t, "", "int x=-1;while(x){x=x+1;}put(x);", 0)
	does(t, "", "int x=0;while(x<3){int y=0;while(y<x){put(x*10+y);y=y+1;}x=x+1;}", 10, 20, 21)
	does(t, "", "int x=0;while(x<4){if(x==2){put(7);}else{if(x<2){put(8);}}x=x+1;}", 8, 8, 7)
	does(t, "", "put(1);put(2L);put(3);", 1, 2, 0, 3)
}

// L2: returns from within ifs and whiles, and what stands behind a return.
func TestReturns(t *testing.T) {
	const f = "int f(int n){int x=0;while(1){if(n<x){return x*100;}else{if(x==5){while(n){return n;}return -1;}}x=x+1;}return 7;}"
	exits(t, []string{f + "int main(){put(f(0));put(f(3));put(f(-9));put(f(4));put(f(5));return f(99);}"}, 99, 100, 400, 0, 500, 5)
	exits(t, []string{"int main(){if(1){return 1;}return 2;}"}, 1)
	exits(t, []string{"int main(){if(0){return 1;}else{return 3;}return 2;}"}, 3)
	exits(t, []string{"int main(){while(1){return 1;}return 2;}"}, 1)
	exits(t, []string{"int main(){while(0){return 1;}return 2;}"}, 2)
	exits(t, []string{"int main(){return 1;return 2;}"}, 1)
	exits(t, []string{"int main(){return 1;put(2);while(1){}return 2;}"}, 1)
	exits(t, []string{"int main(){if(0){}return 2;}"}, 2)
	exits(t, []string{"int main(){if(1){}else{}return 2;}"}, 2)
	exits(t, []string{"int main(){if(1){if(1){return 4;return 5;}else{return 6;}}return 2;}"}, 4)
	exits(t, []string{"int main(){return -2147483647-1;}"}, least)
}

// L2, G4: locals of one name in blocks within one another and behind one another, which hide what is outside; an NVar's expression does not know it yet.
func TestNames(t *testing.T) {
	does(t, "int x=1;", "put(x);int x=2;put(x);if(1){put(x);int x=3;put(x);if(1){long x=4L;put(x);x=5L;}put(x);x=6;put(x);}put(x);", 1, 2, 2, 3, 4, 0, 3, 6, 2)
	does(t, "int x=1;int f(){put(x);return 0;}", "x=x+1;int x=x+10;x=x+100;put(x);f();", 112, 2)
	does(t, "", "int x=1;if(1){int x=x+1;if(1){int x=x+1;put(x);}put(x);}put(x);", 3, 2, 1)
	does(t, "", "int i=0;while(i<3){int x=i;put(x);x=x+10;if(x==11){int x=7;put(x);}i=i+1;}", 0, 1, 7, 2)
	does(t, "", "if(1){int x=1;put(x);}if(1){long x=2L;put(x);}if(0){int x=1;}else{int x=3;put(x);}", 1, 2, 0, 3)
	does(t, "", "int a=1;if(1){int b=2;put(b);}int c=3;int d=4;put(a);put(c);put(d);", 2, 1, 3, 4)
	does(t, "", "int a=1;if(1){int b=a;a=5;put(b);b=6;put(a);}int c=a;a=7;put(c);", 1, 5, 5)
	does(t, "struct s{int x;}", "s s=s{7};put(s.x);if(1){s x=s;s.x=8;put(x.x);put(s.x);}", 7, 7, 8)
	// A local hides a function, but not for &.
	does(t, "int f(int a){return a+1;}int g(int a){return a+2;}", "fn(int)int f=&g;put(f(1));put((&f)(1));fn(int)int h=&f;put(h(5));if(1){fn(int)int g=h;put(g(7));}", 3, 2, 6, 8)
	exits(t, []string{"int f(int f){return f+1;}int g(fn(int)int f,int g){return f(g);}int main(){int main=3;return g(&f,main);}"}, 4)
}
