package tail_test

import (
	"slices"
	"testing"

	"scarfjoint/api"
	"scarfjoint/lower"
)

// O2: bodies without a call.
func TestNoCalls(t *testing.T) {
	tells(t, plain(back(0)))
	tells(t, plain(jump(0)))
	tells(t, body(function(whole), 0, jump(0)))
	tells(t, plain(constant(0), duplicate(1, 0), address(2), put(1), zero(1, 0), back(1)))
	tells(t, body(function(wide), 12, back(from(0, 12)...)))
	tells(t, body(many(function(whole)), 2, count(0), extra(1, 0), back(1)))
}

// O2: several calls at the tail, and some between that are not.
func TestSeveralCalls(t *testing.T) {
	x, y := function(whole, whole), function(whole, some(5, whole)...)
	b := plain(
		zero(0, 4), call(row(1), x, 0), back(1),
		call(row(1), x, 0), call(row(2), x, 1), back(2),
		callr(row(3), x, 2, 1), put(3), callr(row(3), x, 2, 1), back(3),
		call(row(4), y, 0, 1, 2, 3, 4), back(4),
		call(row(5), many(x), 0, 1), back(5),
		call(row(6), x, 5), back(5),
		callr(row(6), x, 5, 5), back(6),
	)
	tells(t, b, 1, 4, 8, 16)
	b.Type = y
	tells(t, b, 1, 4, 8, 10, 16)
	b.Type = many(y)
	tells(t, b, 1, 4, 8, 10, 16)
	b.Type = many(x)
	tells(t, b, 1, 4, 8, 16)
}

// O2: calls to which no order leads are at the tail, too; and so are those to which all lead, and whose TReturn others lead to.
func TestWhatLeadsToCalls(t *testing.T) {
	x := function(whole, whole)
	for _, o := range calls(row(1), x, 0) {
		tells(t, plain(back(0), o, back(1)), 1)
		tells(t, plain(jump(0), o, back(1)), 1)
		tells(t, plain(jump(3), o, back(1), back(0)), 1)
		tells(t, plain(o, back(1), o, back(1)), 0, 2)
		tells(t, plain(o, back(1), jump(0)), 0)
		tells(t, plain(zero(0, 2), o, back(1), jump(2)), 1)
		tells(t, plain(zero(0, 1), o, back(1), zero(1, 1), jump(1)), 1)
	}
}

// full is a body of as many orders as there may be: some over and over, as often as they find room whole, and the last one beside them.
func full(t api.Type, last api.Three, more ...api.Three) api.Body {
	code := slices.Repeat(more, (api.MaxCode-1)/len(more))
	for len(code) < api.MaxCode {
		code = append(code, last)
	}
	return body(t, api.MaxRegs, code...)
}

// every is each so-manieth number below MaxCode, from one on.
func every(first, step int) []int {
	var l []int
	for n := first; n < api.MaxCode; n += step {
		l = append(l, n)
	}
	return l
}

// O2, P1: bodies of as many orders as there may be: no call, calls alone, all of them at the tail, and none of them.
func TestMostOrders(t *testing.T) {
	x := function(whole, whole)
	last := api.MaxRegs - 1
	tells(t, full(x, back(0), put(last)))
	tells(t, full(x, back(last), back(last)))
	for _, o := range calls(row(last), x, 0) {
		tells(t, full(x, back(last), o), api.MaxCode-2)
		tells(t, full(x, jump(0), o))
		tells(t, full(x, back(0), o))
		tells(t, full(x, jump(0), o, back(last)), every(0, 2)[:api.MaxCode/2-1]...)
		tells(t, full(x, jump(0), o, jump(0)))
		tells(t, full(x, jump(0), o, put(last), o, back(last)), every(2, 4)[:api.MaxCode/4-1]...)
		b := full(x, back(last), o, back(last))
		for at := range b.Code {
			if b.Code[at] = o; at%2 == 1 {
				b.Code[at] = back(last)
			}
		}
		tells(t, b, every(0, 2)...)
	}
}

// O2, P1: as many calls as there may be, of types with as many parts as there may be, or of as many words.
func TestMostWords(t *testing.T) {
	deep := function(ints(6), some(6, ints(6))...)
	d := row(api.MaxRegs-1, 0)
	for _, part := range []api.Type{deep, ints(4)} {
		x := function(long, some(6, part)...)
		given, _ := words(x)
		o := callr(d, x, from(api.MaxRegs-1-given, given+1)...)
		tells(t, full(x, jump(0), o, back(d...)), every(0, 2)[:api.MaxCode/2-1]...)
		tells(t, full(function(long, some(4, deep)...), jump(0), o, back(d...)))
	}
	x := function(long, append(some(5, deep), wide)...)
	given, _ := words(x)
	tells(t, full(x, jump(0), call(d, x, from(0, given)...), back(d...)))
}

// O2: bodies that are made of texts: how many calls at the tail the last one has.
func TestBodiesOfTexts(t *testing.T) {
	const ahead = "struct two{int a;int b;}struct three{int a;int b;int c;}struct five{int a;int b;int c;int d;int e;}"
	for _, c := range []struct {
		text string
		n    int
	}{
		{"int f(int n){return n;}", 0},
		{"int f(int n){return f(n-1);}", 1},
		{"int f(int n){return f(n-1)+0;}", 0},
		{"int f(int n){return f(f(n));}", 1},
		{"int f(int n){int m=f(n);put(m);return m;}", 0},
		{"int f(int n){if(n){return f(n-1);}else{return f(n+1);}return 0;}", 2},
		{"int f(int n){while(n){return f(n-1);}f(n);return f(2);}", 2},
		{"long f(long n){return f(n+1L);}", 1},
		{"two f(two x){return f(two{x.b,x.a});}", 1},
		{"three f(int n){return f(n-1);}", 0},
		{"int f(five x){return f(x);}", 0},
		{"int g(int n){return n;}int f(five x){return g(x.a);}", 1},
		{"int f(...){return f(1,2);}", 0},
		{"int g(int n){return n;}int f(...){return g(count);}", 1},
		{"int f(fn(int)int q,int n){return q(n);}", 1},
		{"int f(fn(int,int,int,int,int)int q,int n){return q(n,n,n,n,n);}", 0},
		{"extern int g(int a,int b,int c,int d,int e);int f(int a,int b,int c,int d){return g(a,b,c,d,1);}", 0},
		{"extern int g(int a,int b,int c,int d,int e);int f(int a,long b,int c){return g(a,c,c,a,1);}", 1},
	} {
		m, f := lower.Make(ahead + c.text)
		if f.Code != api.OK {
			t.Fatal(c.text, f)
		}
		b := m.Bodies[len(m.Bodies)-1]
		l := reference(b)
		if len(l) != c.n {
			t.Errorf("%s: %v\n%s", c.text, l, text(b))
		}
		tells(t, b, l...)
	}
}
