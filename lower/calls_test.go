package lower_test

import (
	"slices"
	"testing"

	"scarfjoint/api"
)

// L2, H4: kids are done in order: what is reckoned first where several tell or change something in one expression.
func TestWhatIsFirst(t *testing.T) {
	const f = "int g=1;long h=1L;int f(int a){put(a);g=g*10+a;h=h*10L+long(a);return a;}long k(int a){f(a);return long(a);}"
	does(t, f, "put(f(1)+f(2)*f(3)-f(4));", 1, 2, 3, 4, 3)
	does(t, f, "put(f(1)<f(2));put(f(3)==f(4));put(k(5)<k(6));put(k(7)==k(7));", 1, 2, 1, 3, 4, 0, 5, 6, 1, 7, 7, 1)
	does(t, f, "put(f(1)-(f(2)-(f(3)-f(4))));", 1, 2, 3, 4, -2)
	does(t, f, "put(k(1)*k(2)+k(3)*k(4));", 1, 2, 3, 4, 14, 0)
	// A variable is read where it stands, ahead of what changes it behind.
	does(t, f, "put(g+f(2));put(f(3)+g);put(g+f(4)+g);", 2, 3, 3, 126, 4, 123+4+1234)
	does(t, f, "put(h+k(2));put(k(3)+h);put(h-k(4)-h);", 2, 3, 0, 3, 126, 0, 4, 123-4-1234, -1)
	does(t, f, "g=g+f(5);put(g);h=h+k(6);put(h);g=f(7)+g;put(g);", 5, 6, 6, 21, 0, 7, 7+667)
	does(t, f, "int x=g;f(1);put(x);put(g);long y=h;f(2);put(y);put(h);", 1, 1, 11, 2, 11, 0, 112, 0)
	does(t, f+"int o(int a,int b,int c){put(a);put(b);put(c);return 0;}", "o(g,f(2),g);o(f(3),g,f(4));", 2, 1, 2, 12, 3, 4, 3, 123, 4)
	does(t, f+"struct s{int a;int b;int c;}", "s x=s{g,f(2),g};put(x.a);put(x.b);put(x.c);put(s{f(3),f(4),f(5)}.b);x=s{f(6),x.a,g};put(x.b);put(x.c);", 2, 1, 2, 12, 3, 4, 5, 4, 6, 1, 123456)
	does(t, f+"struct s{long a;}int o(int a,...){put(a);put(extra(0));put(extra(2));put(count);return 0;}", "o(g,h,f(2),h);o(f(3),f(4),s{h}.a);", 2, 1, 1, 2, 5, 3, 4, 3, 4, 0, 3)
	// What is called is found ahead of its arguments.
	does(t, f+"int a(int x){return x;}int b(int x){return -x;}fn(int)int o(){f(8);if(g<100){return &a;}return &b;}", "put(o()(f(1)));put(o()(f(2)));put((o())(g));", 8, 1, 1, 8, 2, -2, 8, -181828)
	does(t, f+"struct s{fn(int)int q;}int a(int x){return x;}", "put(s{&a}.q(f(1))+f(2));", 1, 2, 3)
	// The place of a set is no part of what is done ahead.
	does(t, f+"struct s{int a;int b;}", "s x=s{1,2};x.a=f(x.a)+f(x.b);put(x.a);g=f(3);put(g);", 1, 2, 3, 3, 3)
	does(t, f, "if(f(0)){f(1);}else{f(2);}while(g<2000){f(3);}put(g);", 0, 2, 3, 3, 10233)
	does(t, f+"int e(...){return extra(f(1))*10+extra(f(0))+count;}", "put(e(5,6));put(e(f(7),f(8)));", 1, 0, 67, 7, 8, 1, 0, 89)
	// Words that are told within what is told are ahead of it.
	does(t, f, "put(k(1));put(-k(2));put(!f(0));put(int(k(3)));put(long(f(4)));", 1, 1, 0, 2, -2, -1, 0, 1, 3, 3, 4, 4, 0)
}

// L2: functions that call themselves and one another, as deep as fuel lets them.
func TestRecursion(t *testing.T) {
	exits(t, []string{"int f(int n){if(n){return f(n-1)+1;}return 0;}int main(){put(f(0));put(f(1));return f(200);}"}, 200, 0, 1)
	exits(t, []string{"int f(int n){if(n<2){return n;}return f(n-1)+f(n-2);}int main(){put(f(1));put(f(7));return f(5);}"}, 5, 1, 13)
	exits(t, []string{"long f(long n){if(n<2L){return 1L;}return n*f(n-1L);}int main(){put(f(20L));put(f(15L));return 0;}"}, 0, -2102132736, 566454140, 2004310016, 304)
	exits(t, []string{
		"extern int odd(int n);int even(int n){if(n){return odd(n-1);}return 1;}int main(){put(even(3));return even(4);}",
		"extern int even(int n);int odd(int n){if(n){return even(n-1);}return 0;}",
	}, 1, 0)
	// The locals of a call are its own.
	exits(t, []string{"struct s{int a;long b;}int f(int n,s v){int x=n*10;long y=long(n);if(n){v.a=v.a+1;f(n-1,v);}put(x);put(y);put(v.a);return v.a;}int main(){s v=s{5,6L};put(f(2,v));return v.a;}"}, 5, 0, 0, 0, 7, 10, 1, 0, 7, 20, 2, 0, 6, 6)
	// A function's value that calls itself.
	exits(t, []string{"int f(fn()int q,int n){put(n);if(n){return f(q,n-1);}return q();}int g(){return 6;}int main(){return f(&g,2);}"}, 6, 2, 1, 0)
}

// L2: functions as values: handed on, returned, kept in variables, called through what a call returned, compared by what they do.
func TestFunctionsAsValues(t *testing.T) {
	const f = "int a(int x){return x+1;}int b(int x){return x*2;}fn(int)int pick(int n){if(n){return &a;}return &b;}int twice(fn(int)int q,int x){return q(q(x));}fn(fn(int)int,int)int which(){return &twice;}"
	does(t, f, "put(pick(1)(5));put(pick(0)(5));put(twice(&a,5));put(twice(pick(0),5));put(which()(&b,3));put(which()(pick(1),which()(&b,1)));", 6, 10, 7, 20, 12, 6)
	does(t, f, "fn(int)int q=&a;put(q(1));q=&b;put(q(1));q=pick(q(0)+1);put(q(9));fn(fn(int)int,int)int w=which();put(w(q,1));w=&twice;put(w(&b,1));", 2, 2, 10, 3, 4)
	does(t, f, "put((&a)(1));put((&twice)(&a,1));int i=0;while(i<3){fn(int)int q=pick(i%2);put(q(i+10));i=i+1;}", 2, 3, 20, 12, 24)
	does(t, "int f(){put(3);return 4;}fn()int once(){return &f;}fn()fn()int more(){return &once;}", "put(more()()());put(once()());", 3, 4, 3, 4)
	does(t, "long f(long x,...){return x*long(count);}fn(long,...)long g(fn(long,...)long q){put(q(2L,1,1));return q;}", "put(g(&f)(4294967296L,1L,1));fn(long,...)long q=&f;put(q(5L));", 4, 0, 0, 3, 0, 0)
}

// L2: functions of any number: how many words lie beyond, which ones, and numbers of which there is none.
func TestAnyNumber(t *testing.T) {
	const f = "int f(int n,...){put(count);int i=-1;while(i<count+1){put(extra(i));i=i+1;}return n;}int g(...){return count*1000+extra(0)*100+extra(1)*10+extra(2);}"
	does(t, f, "put(f(9));", 0, 0, 0, 9)
	does(t, f, "put(f(9,1));", 1, 0, 1, 0, 9)
	does(t, f, "put(f(9,1L));", 2, 0, 1, 0, 0, 9)
	does(t, f, "f(9,4294967298L,3,-1L);", 5, 0, 2, 1, 3, -1, -1, 0)
	does(t, f, "f(9,1,2L,3,4L,5,6L);", 9, 0, 1, 2, 0, 3, 4, 0, 5, 6, 0, 0)
	does(t, f, "f(9,1L,2L,3L,4L,5L,6L);", 12, 0, 1, 0, 2, 0, 3, 0, 4, 0, 5, 0, 6, 0, 0)
	does(t, f, "put(g());put(g(1));put(g(1,2));put(g(1,2,3));put(g(1L,3));put(g(0-2147483647-1));", 0, 1100, 2120, 3123, 3103, 1000)
	does(t, f, "fn(int,...)int q=&f;put(q(1,2,3L));put((&g)(4L));", 3, 0, 2, 3, 0, 0, 1, 2400)
	// Each call has words of its own.
	does(t, "int f(int n,...){if(n){put(f(n-1,count,extra(0)));put(extra(0));}return count+extra(1);}", "put(f(2,7,8L));", 5, 3, 9, 7, 11)
	does(t, "int f(...){put(extra(2147483647));put(extra(-2147483647-1));put(extra(-1));put(extra(count));put(extra(count-1));return extra(int(long(0)));}", "put(f(7,8));", 0, 0, 0, 0, 8, 7)
	does(t, "struct s{int a;long b;}long f(s x,long y,...){put(count);put(extra(0));return x.b+y+long(extra(1));}", "put(f(s{1,2L},3L));put(f(s{1,2L},3L,4L));put(f(s{1,2L},3L,5,6));", 0, 0, 5, 0, 2, 4, 5, 0, 2, 5, 11, 0)
}

// L2: parameters are locals, which may be set, of each type.
func TestParameters(t *testing.T) {
	does(t, "int f(int a,long b,int c,int d,long e,int g){put(a);put(b);put(c);put(d);put(e);put(g);a=g;g=0;b=e;e=b+1L;put(a);put(b);put(e);put(g);return c;}",
		"put(f(1,2L,3,4,5L,6));", 1, 2, 0, 3, 4, 5, 0, 6, 6, 5, 0, 6, 0, 0, 3)
	does(t, "int f(int n){int s=0;while(n){s=s+n;n=n-1;}return s;}", "int n=4;put(f(n));put(n);", 10, 4)
	does(t, "int g(int x){return -x;}int h(int x){return x+1;}int f(fn(int)int q,int x){put(q(x));q=&g;return q(x);}", "put(f(&h,5));fn(int)int q=&h;put(f(q,6));put(q(7));", 6, -5, 7, -6, 8)
}

// A call that is a function's last one is followed by a return of just what it returns, so that calls at the tail can be told.
func TestLastCalls(t *testing.T) {
	const ahead = "struct s{int a;fn()int b;}struct o{long a;}struct m{int a;long b;int c;}"
	for _, text := range []string{
		"int f(int a,int b){return f(b,a);}",
		"long f(long a){if(a<1L){return a;}return f(a-1L);}",
		"s f(s a){return f(s{a.a+1,a.b});}",
		"o f(o a,fn(o)o q){return q(a);}",
		"m f(m a){return f(m{a.c,a.b,a.a});}",
		"fn()int g(){return g();}fn()int f(...){return f(1,2L);}",
		"int f(s a){return a.b();}",
	} {
		l := madeOf(t, ahead+text).Bodies
		code := l[len(l)-1].Code
		call, last := code[len(code)-2], code[len(code)-1]
		if call.Op != api.TCall && call.Op != api.TCallr || last.Op != api.TReturn || !slices.Equal(call.D, last.S) {
			t.Errorf("%q: %v", text, code)
		}
	}
}
