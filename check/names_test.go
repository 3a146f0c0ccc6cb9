package check_test

import (
	"testing"

	"scarfjoint/api"
)

// G2: a struct is known behind its declaration alone.
func TestNamedTypes(t *testing.T) {
	failAll(t, []row{
		{"int f(s a){return 1;}struct s{int a;}", api.ErrName, api.NNamed, 0},
		{"struct s{s a;}", api.ErrName, api.NNamed, 0},
		{"struct s{fn(s)int a;}", api.ErrName, api.NNamed, 0},
		{"struct s{int a;t b;}struct t{int a;}", api.ErrName, api.NNamed, 0},
		{"extern s f();struct s{int a;}", api.ErrName, api.NNamed, 0},
		{"s f(){return 1;}", api.ErrName, api.NNamed, 0},
		{"extern s f;", api.ErrName, api.NNamed, 0},
		{"s f=1;", api.ErrName, api.NNamed, 0},
		{"int f(){s a=1;return 1;}", api.ErrName, api.NNamed, 0},
		{"int f(fn()s a){return 1;}", api.ErrName, api.NNamed, 0},
		{"int s=1;int f(s a){return 1;}", api.ErrName, api.NNamed, 0},
		{"extern int s();int f(s a){return 1;}", api.ErrName, api.NNamed, 0},
		{"int f(int s,s a){return 1;}", api.ErrName, api.NNamed, 0},
		{"struct t{int s;}int f(s a){return 1;}", api.ErrName, api.NNamed, 0},
		{"struct S{int a;}int f(s a){return 1;}", api.ErrName, api.NNamed, 0},
		{"int f(){return s{1}.a;}struct s{int a;}", api.ErrName, api.NMake, 0},
		{"int f(){return s{}.a;}", api.ErrName, api.NMake, 0},
	})
	mayAll(t, []string{
		"struct s{int a;}int f(s a){return 1;}",
		"struct s{int a;}s f(){return s{1};}",
		"struct s{int a;}struct t{s a;fn(s)s b;}struct u{s a;}u f(u a){u b=a;return b;}",
		"struct s{int s;}int s=1;int f(s s){return s.s;}",
		"struct f{int f;}f f(f f){return f;}",
	})
}

// G2, G3: what is there twice.
func TestTwice(t *testing.T) {
	failAll(t, []row{
		{"struct s{int a;}struct s{int a;}", api.ErrTwice, api.NStruct, 1},
		{"struct s{int a;}struct t{int a;}struct s{long b;}", api.ErrTwice, api.NStruct, 2},
		{"struct s{int a;long a;}", api.ErrTwice, api.NField, 1},
		{"struct s{int a;int b;int a;}", api.ErrTwice, api.NField, 2},
		{"int f(){return 1;}int f(){return 1;}", api.ErrTwice, api.NFun, 1},
		{"int f(){return 1;}static int f(){return 1;}", api.ErrTwice, api.NFun, 1},
		{"extern int f();int f(){return 1;}", api.ErrTwice, api.NFun, 0},
		{"int f(){return 1;}extern int f();", api.ErrTwice, api.NExtern, 0},
		{"extern int f();extern int f();", api.ErrTwice, api.NExtern, 1},
		{"extern int f;int f(){return 1;}", api.ErrTwice, api.NFun, 0},
		{"int f(){return 1;}extern int f;", api.ErrTwice, api.NOutside, 0},
		{"int f=1;int f(){return 1;}", api.ErrTwice, api.NFun, 0},
		{"int f(){return 1;}int f=1;", api.ErrTwice, api.NGlobal, 0},
		{"extern int f();int f=1;", api.ErrTwice, api.NGlobal, 0},
		{"extern int f;int f=1;", api.ErrTwice, api.NGlobal, 0},
		{"int f=1;extern int f;", api.ErrTwice, api.NOutside, 0},
		{"extern int f;extern int f;", api.ErrTwice, api.NOutside, 1},
		{"int f=1;int g=1;static long f=1L;", api.ErrTwice, api.NGlobal, 2},
		{"int f(int a,long a){return 1;}", api.ErrTwice, api.NParam, 1},
		{"int f(int a,int b,int a,...){return 1;}", api.ErrTwice, api.NParam, 2},
		{"extern int f(int a,int a);", api.ErrTwice, api.NParam, 1},
	})
	mayAll(t, []string{
		"struct s{int a;}struct t{int a;}struct S{int a;int A;}",
		"struct s{int s;}int s=1;",
		"int f(int f){return f;}",
		"extern int f(int f);extern int g(int f);int h(int f,int g,int h){return f;}",
		"int a=1;long b=1L;int f(int a,int b){return a+b;}int g(int a,int b){return f(a,b);}",
		"static int f(){return 1;}static int g=1;",
	})
}

// G3, G4: what is declared is there behind its declaration, a function from its own block on.
func TestDeclared(t *testing.T) {
	failAll(t, []row{
		{"int f(){return a;}int a=1;", api.ErrName, api.NName, 0},
		{"int f(){return a;}extern int a;", api.ErrName, api.NName, 0},
		{"int f(){a=1;return 1;}int a=1;", api.ErrName, api.NName, 0},
		{"int f(){return g();}int g(){return 1;}", api.ErrName, api.NName, 0},
		{"int f(){return g();}extern int g();", api.ErrName, api.NName, 0},
		{"int f(fn()int a){a=&g;return 1;}int g(){return 1;}", api.ErrName, api.NAddr, 0},
		{"int f(){return g();}", api.ErrName, api.NName, 0},
		{"struct g{int a;}int f(){return g();}", api.ErrName, api.NName, 0},
		{"struct g{int a;}int f(){return g.a;}", api.ErrName, api.NName, 0},
		{"extern int g(int a);int f(){return a;}", api.ErrName, api.NName, 0},
		{"int g(int a){int b=1;return a;}int f(){return b;}", api.ErrName, api.NName, 1},
		{"int g(int a){return a;}int f(){return a;}", api.ErrName, api.NName, 1},
	})
	mayAll(t, []string{
		"int f(){return f();}",
		"int f(int a,...){return f(a,a,count);}",
		"int f(){fn()int a=&f;return a();}",
		"extern int g();int f(){return g();}",
		"int g(){return 1;}int f(){return g();}int h(){return f()+g();}",
		"int a=1;extern long b;long f(){a=2;b=3L;return b+long(a);}",
	})
}

// G4: how long locals are there, and what they hide.
func TestLocals(t *testing.T) {
	failAll(t, []row{
		{"int f(int x){int x=1;return x;}", api.ErrTwice, api.NVar, 0},
		{"int f(){int x=1;int x=2;return x;}", api.ErrTwice, api.NVar, 1},
		{"int f(){int x=1;long x=2L;return x;}", api.ErrTwice, api.NVar, 1},
		{"int f(){if(1){int x=1;int x=1;}return 1;}", api.ErrTwice, api.NVar, 1},
		{"int f(){int x=1;if(1){int x=1;}int x=1;return 1;}", api.ErrTwice, api.NVar, 2},
		{"int f(int x){if(1){int x=1;int y=1;int x=1;}return 1;}", api.ErrTwice, api.NVar, 2},
		{"int f(){int x=x;return x;}", api.ErrName, api.NName, 0},
		{"int f(){x=1;int x=1;return x;}", api.ErrName, api.NName, 0},
		{"int f(){if(1){int x=1;}return x;}", api.ErrName, api.NName, 0},
		{"int f(){if(1){int x=1;}else{put(x);}return 1;}", api.ErrName, api.NName, 0},
		{"int f(){while(0){int x=1;}return x;}", api.ErrName, api.NName, 0},
		{"int f(){while(x){int x=1;}return 1;}", api.ErrName, api.NName, 0},
		{"int f(){if(1){if(1){int x=1;}put(x);}return 1;}", api.ErrName, api.NName, 0},
		// hidden ones, and which is there again
		{"int x=1;int f(){long x=1L;return x;}", api.ErrKind, api.NReturn, 0},
		{"int x=1;int f(){if(1){long x=1L;x=1;}return x;}", api.ErrKind, api.NSet, 0},
		{"int f(){int x=1;if(1){long x=1L;return x;}return x;}", api.ErrKind, api.NReturn, 0},
		{"int f(){int x=1;if(1){long x=1L;}x=1L;return x;}", api.ErrKind, api.NSet, 0},
		{"int g(){return 1;}int f(){int g=1;return g();}", api.ErrKind, api.NCall, 0},
		{"int g(){return 1;}int f(int g){return g();}", api.ErrKind, api.NCall, 0},
		{"int g(){return 1;}int f(){if(1){int g=1;}return g;}", api.ErrKind, api.NName, 0},
		{"int x=1;int f(){long x=x;return 1;}", api.ErrKind, api.NVar, 0},
		{"int f(int x){if(1){long x=x;}return 1;}", api.ErrKind, api.NVar, 0},
	})
	mayAll(t, []string{
		"int f(int x){if(1){int x=1;}return x;}",
		"int f(int x){if(1){long x=1L;x=2L;}else{long x=3L;}x=1;return x;}",
		"int f(){int x=1;while(x){long x=1L;if(1){int x=1;put(x);}put(x);}x=2;return x;}",
		"int x=1;long f(){long x=long(x);return x;}int g(){return x;}",
		"int f(int x){if(x){long x=long(x);put(x);}return x;}",
		"int g(){return 1;}int f(){if(1){int g=2;put(g);}return g();}",
		"int g(){return 1;}int f(){fn()int g=&g;return g();}",
		"int g(){return 1;}int f(){long g=1L;fn()int h=&g;return h();}",
		"int f(int f){int g=f;return g;}int g(int f){return f;}",
		"int f(){if(1){int x=1;}if(1){long x=1L;}long x=1L;return 1;}",
		"int f(){if(1){int x=1;}int x=1;return x;}",
	})
}

// G4: what a function's name stands for.
func TestFunctionNames(t *testing.T) {
	failAll(t, []row{
		{"int f(){return f;}", api.ErrKind, api.NName, 0},
		{"int f(){f=1;return 1;}", api.ErrKind, api.NName, 0},
		{"int f(){put(f);return 1;}", api.ErrKind, api.NName, 0},
		{"int f(){return f.a;}", api.ErrKind, api.NName, 0},
		{"int f(){fn()int a=f;return 1;}", api.ErrKind, api.NName, 0},
		{"int f(int a){return f(f);}", api.ErrKind, api.NName, 1},
		{"int f(fn()int a){return 1;}extern int g();int h(){return f(g);}", api.ErrKind, api.NName, 1},
		{"int f(){return f.f();}", api.ErrKind, api.NName, 0},
		{"int f(){return -f;}", api.ErrKind, api.NName, 0},
		{"int f(){return f+1;}", api.ErrKind, api.NName, 0},
		{"int f(){return &g;}", api.ErrName, api.NAddr, 0},
		{"int g=1;int f(){return &g;}", api.ErrName, api.NAddr, 0},
		{"extern int g;int f(){return &g;}", api.ErrName, api.NAddr, 0},
		{"int f(int g){return &g;}", api.ErrName, api.NAddr, 0},
		{"int f(fn()int g){return &g;}", api.ErrName, api.NAddr, 0},
		{"struct g{int a;}int f(){return &g;}", api.ErrName, api.NAddr, 0},
	})
	mayAll(t, []string{
		"int f(){return (f)();}",
		"int f(){return ((f))()+(&f)();}",
		"extern fn()int g();int f(){return g()();}",
		"struct s{fn()int f;}int f(s a){return a.f();}",
		"struct s{fn()int f;}extern s g();int f(){g().f();return g().f();}",
		"extern int g();fn()int f(){return &g;}",
		"extern int g(fn()int a);int f(){return g(&f);}",
		"extern int h();int f(fn()int g){g=&h;g();return g();}",
	})
}
