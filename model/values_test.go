package model_test

import "testing"

// H4: structs are values; a copy does not follow.
func TestStructs(t *testing.T) {
	const s = "struct s{int a;long b;}struct o{s c;int d;s e;}"
	does(t, s, "s v=s{1,2L};put(v.a);put(v.b);", 4+3+3, 1, 2, 0)
	does(t, s, "put(s{1,2L}.a);", 5, 1)
	does(t, s, "put(s{1,2L}.b);", 5, 2, 0)
	does(t, s, "s v=s{1,2L};v.a=5;put(v.a);put(v.b);", 4+2+3+3, 5, 2, 0)
	does(t, s, "s v=s{1,2L};v.b=-5L;put(v.a);put(v.b);", 4+3+3+3, 1, -5, -1)
	does(t, s, "s v=s{1,2L};s w=v;v.a=5;w.b=7L;put(v.a);put(v.b);put(w.a);put(w.b);", 4+2+2+2+4*3, 5, 2, 0, 1, 7, 0)
	does(t, s, "s v=s{1,2L};s w=s{3,4L};v=w;w.a=9;put(v.a);put(w.a);", 4+4+2+2+3+3, 3, 9)
	does(t, s, "s v=s{1,2L};o u=o{v,3,v};v.a=9;put(u.c.a);put(u.e.a);put(u.d);", 4+5+2+4+4+3, 1, 1, 3)
	does(t, s, "s v=s{1,2L};o u=o{v,3,v};u.c.a=9;put(v.a);put(u.c.a);put(u.e.a);", 4+5+2+3+4+4, 1, 9, 1)
	does(t, s, "s v=s{1,2L};o u=o{v,3,v};o w=u;u.c.b=8L;u.d=7;u.e=s{5,6L};put(w.c.b);put(w.d);put(w.e.a);put(u.c.b);put(u.d);put(u.e.a);put(u.c.a);",
		4+5+2+2+2+4+4+3+4+4+3+4+4, 2, 0, 3, 1, 8, 0, 7, 5, 1)
	does(t, s, "s v=s{1,2L};o u=o{v,3,v};s w=u.c;w.a=9;u.c.a=8;put(u.c.a);put(w.a);put(v.a);", 4+5+3+2+2+4+3+3, 8, 9, 1)
	// A field's own value stands on both sides.
	does(t, s, "s v=s{1,2L};v.a=v.a+v.a;put(v.a);", 4+6+3, 2)
	does(t, s, "o u=o{s{1,2L},3,s{4,5L}};u.c=u.e;u.e.a=6;put(u.c.a);put(u.e.a);", 9+3+2+4+4, 4, 6)
	// Of a call: what is handed in stays as it is, and what comes out is its own.
	const f = "int f(s x){x.a=x.a+1;return x.a;}s k(s x,int a){x.a=a;return x;}"
	does(t, s+f, "s v=s{1,2L};put(f(v));put(v.a);", 4+3+8+3, 2, 1)
	does(t, s+f, "s v=s{1,2L};s w=k(v,9);put(v.a);put(w.a);put(w.b);", 4+4+2+2+3+3+3, 1, 9, 2, 0)
	does(t, s+f, "put(k(s{1,2L},7).a);", 1+1+1+3+1+4, 7)
	does(t, s+f, "s v=s{1,2L};v=k(v,3);put(v.a);", 4+1+1+2+4+3, 3)
	// Fields of one name in other structs, in another order.
	does(t, "struct p{int a;int b;}struct q{int b;p a;}", "q v=q{1,p{2,3}};put(v.b);put(v.a.a);put(v.a.b);v.a.b=4;v.b=5;put(v.a.b);put(v.a.a);put(v.b);",
		1+1+1+3+3+4+4+2+2+4+4+3, 1, 2, 3, 4, 2, 5)
}

// H3, H4: functions as values; a name that is called has a step just where it is a variable's.
func TestFunctionValues(t *testing.T) {
	const f = "int f(int a){return a+1;}int g(int a){return a*2;}"
	does(t, f, "put(f(3));", 3+4, 4)
	does(t, f, "put((&f)(3));", 4+4, 4)
	does(t, f, "fn(int)int q=&f;put(q(3));", 2+4+4, 4)
	does(t, f, "fn(int)int q=&f;q=&g;put(q(3));", 2+2+4+4, 6)
	does(t, f, "fn(int)int q=&f;fn(int)int r=q;q=&g;put(r(3));put(q(3));", 2+2+2+8+8, 4, 6)
	does(t, f, "fn(int)int q=&f;q(3);", 2+1+3+4)
	does(t, f+"struct s{fn(int)int p;int n;}", "s v=s{&g,5};put(v.p(v.n));v.p=&f;put(v.p(v.n));", 4+(2+2+2+4)+2+(2+2+2+4), 10, 6)
	does(t, f+"struct s{fn(int)int p;int n;}s k(){return s{&g,4};}", "put(k().p(3));", 1+1+(1+1+4)+1+4, 6)
	does(t, f+"fn(int)int k(int n){if(n){return &f;}return &g;}", "put(k(0)(5));put(k(1)(5));", 2*(2+2+4+1+4), 10, 6)
	does(t, f+"int twice(fn(int)int q,int n){return q(q(n));}", "put(twice(&f,1));put(twice(&g,3));", 2*(4+1+5+4+4), 3, 12)
	// A local hides a function where it is called, not where its address is asked for.
	does(t, f, "fn(int)int f=&g;put(f(3));put((&f)(3));", 2+8+8, 6, 4)
	does(t, f+"int h(int f){return (&f)(f)+g(f);}", "put(h(3));", 3+1+1+3+4+2+4, 10)
	// A recursion through a value.
	does(t, "int r(fn(int,int)int q,int n){return q(n,n);}int s(int a,int b){return a*b;}", "put(r(&s,7));", 4+5+4, 49)
}
