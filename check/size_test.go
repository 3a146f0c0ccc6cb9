package check_test

import (
	"testing"

	"scarfjoint/api"
)

// G2: structs of as many fields and words as there may be, and of more.
func TestStructSizes(t *testing.T) {
	six := "struct t{" + fill("long #;", 6, "") + "}"
	failAll(t, []row{
		{"struct s{" + fill("int #;", api.MaxFields+1, "") + "}", api.ErrSize, api.NStruct, 0},
		{"struct s{" + fill("int #;", 20, "") + "}", api.ErrSize, api.NStruct, 0},
		{six + "struct s{t a;int b;}", api.ErrSize, api.NStruct, 1},
		{six + "struct s{int a;t b;}", api.ErrSize, api.NStruct, 1},
		// the places that are left out count
		{"struct s{int a;long b;int c;}struct t{s a;s b;int c;}", api.ErrSize, api.NStruct, 1},
		{"struct s{int a;long b;int c;long d;int e;long f;}struct t{s a;int b;}", api.ErrSize, api.NStruct, 1},
	})
	mayAll(t, []string{
		"struct s{int a;}",
		"struct s{" + fill("int #;", api.MaxFields, "") + "}",
		six + "struct s{t a;}",
		"struct s{int a;long b;int c;}struct t{s a;s b;}",
		"struct s{int a;long b;int c;long d;int e;long f;}struct t{s a;}",
		"struct s{" + fill("fn(int,int)long #;", api.MaxFields, "") + "}struct t{s a;s b;}",
	})
}

// G2: types as deep as there may be, and deeper.
func TestDeepTypes(t *testing.T) {
	three := "struct s{int a;}struct t{s a;}struct u{t a;}"
	failAll(t, []row{
		{three + "struct v{u a;}", api.ErrSize, api.NStruct, 3},
		{"int f(fn(fn(fn(fn()int)int)int)int a){return 1;}", api.ErrSize, api.NFnT, 0},
		{"int f(fn()fn()fn()fn()int a){return 1;}", api.ErrSize, api.NFnT, 0},
		{"struct s{fn()fn()fn()int a;}", api.ErrSize, api.NStruct, 0},
		{"struct s{fn()fn()fn()fn()int a;}", api.ErrSize, api.NFnT, 0},
		{three + "int f(fn(u)int a){return 1;}", api.ErrSize, api.NFnT, 0},
		{three + "extern int f(fn()u a);", api.ErrSize, api.NFnT, 0},
		{three + "int f(u a){return 1;}", api.ErrSize, api.NFun, 0},
		{three + "extern u f();", api.ErrSize, api.NExtern, 0},
		{three + "u f(){return 1;}", api.ErrSize, api.NFun, 0},
		{"int f(fn()fn()fn()int a){return 1;}", api.ErrSize, api.NFun, 0},
		{"extern fn()fn()fn()int f();", api.ErrSize, api.NExtern, 0},
		{"int f(){fn()fn()fn()fn()int a=1;return 1;}", api.ErrSize, api.NFnT, 0},
		{"int f(){fn(fn()fn()fn()fn()int)int a=1;return 1;}", api.ErrSize, api.NFnT, 1},
	})
	mayAll(t, []string{
		three,
		"struct s{fn()fn()int a;}",
		"struct s{int a;}struct t{s a;}int f(t a){t b=a;return 1;}",
		three + "int f(){u a=u{t{s{1}}};return a.a.a.a;}",
		"int f(fn()fn()int a){return a()();}",
		"extern fn()fn()int f();int g(){return f()()();}",
		"int f(){return 1;}int g(){fn()int a=&f;return a();}",
	})
}

// G2, G3: functions of as many parameters as there may be, and of more.
func TestParameterCounts(t *testing.T) {
	six, seven := fill("int #", api.MaxParams, ","), fill("int #", api.MaxParams+1, ",")
	sixTypes, sevenTypes := fill("int", api.MaxParams, ","), fill("int", api.MaxParams+1, ",")
	failAll(t, []row{
		{"extern int f(" + seven + ");", api.ErrSize, api.NExtern, 0},
		{"extern int f(" + seven + ",...);", api.ErrSize, api.NExtern, 0},
		{"int f(" + seven + "){return 1;}", api.ErrSize, api.NFun, 0},
		{"int f(" + seven + ",...){return 1;}", api.ErrSize, api.NFun, 0},
		{"int f(fn(" + sevenTypes + ")int a){return 1;}", api.ErrSize, api.NFnT, 0},
		{"int f(fn(" + sevenTypes + ",...)int a){return 1;}", api.ErrSize, api.NFnT, 0},
	})
	mayAll(t, []string{
		"extern int f();extern int g(...);",
		"extern int f(" + six + ");extern int g(" + six + ",...);",
		"int f(" + six + "){return a;}int g(" + six + ",...){return count;}",
		"int f(fn(" + sixTypes + ",...)int a,fn(" + sixTypes + ")int b,fn(...)int c,fn()int d){return 1;}",
	})
}

// G3, G4: parameters and locals of as many words as there may be, and of more.
func TestLocalWords(t *testing.T) {
	// Three of them have 36 words.
	big := "struct s{" + fill("long #;", 6, "") + "}"
	failAll(t, []row{
		{big + "int f(s a,s b,s c,long d,long e,int g){return 1;}", api.ErrSize, api.NFun, 0},
		{big + "int f(s a,s b,s c,s d){return 1;}", api.ErrSize, api.NFun, 0},
		{big + "int f(s a,s b,s c,long d,long e){int g=1;return 1;}", api.ErrSize, api.NVar, 0},
		{big + "int f(s a,s b,s c,long d,int e){int g=1;int h=1;return 1;}", api.ErrSize, api.NVar, 1},
		{big + "int f(s a,s b,s c,long d,int e){long g=1L;return 1;}", api.ErrSize, api.NVar, 0},
		{big + "int f(s a){s b=a;s c=a;s d=a;return 1;}", api.ErrSize, api.NVar, 2},
		{"int f(){" + fill("long #=1L;", 20, "") + "int u=1;return 1;}", api.ErrSize, api.NVar, 20},
		{"int f(){" + fill("int #=1;", 26, "") + fill("int #a=1;", 15, "") + "return 1;}", api.ErrSize, api.NVar, 40},
		{"int f(){" + fill("fn()int #=&f;", 26, "") + fill("fn()int #a=&f;", 15, "") + "return 1;}", api.ErrSize, api.NVar, 40},
		// outer blocks' ones count, the hidden ones among them
		{big + "int f(s a){s b=a;if(1){s c=a;if(1){s a=c;}}return 1;}", api.ErrSize, api.NVar, 2},
		{big + "int f(s a){s b=a;if(1){s c=a;long d=1L;}long d=1L;long e=1L;int g=1;if(1){s c=a;}return 1;}", api.ErrSize, api.NVar, 6},
		{big + "int f(s a){if(1){s b=a;}else{s b=a;s c=b;s d=c;}return 1;}", api.ErrSize, api.NVar, 3},
		{big + "int f(s a){while(1){s b=a;s c=b;if(1){long d=1L;long e=1L;int g=1;}}return 1;}", api.ErrSize, api.NVar, 4},
	})
	mayAll(t, []string{
		big + "int f(s a,s b,s c,long d,long e){return 1;}",
		big + "int f(s a,s b,s c,long d,int e){int g=1;return 1;}",
		big + "extern int f(s a,s b,s c,s d,s e,s g);",
		big + "int f(s a,s b,s c,fn(s,s,s,s,s,s)s d){return 1;}",
		"int f(){" + fill("long #=1L;", 20, "") + "return 1;}",
		"int f(){" + fill("int #=1;", 26, "") + fill("int #a=1;", 14, "") + "return 1;}",
		// those of blocks that ended do not
		big + "int f(s a){s b=a;if(1){s c=a;long d=1L;long e=1L;}else{s c=b;}while(1){s c=b;}s c=b;return 1;}",
		big + "int f(s a,s b,s c){return 1;}int g(s a,s b,s c){return 1;}",
		big + "int f(){s a=s{" + fill("1L", 6, ",") + "};if(1){s b=a;s c=b;}if(1){s b=a;s c=b;long d=1L;long e=1L;}return 1;}",
	})
}

// G5: calls with as many arguments beyond as there may be, and with more.
func TestBeyond(t *testing.T) {
	failAll(t, []row{
		{in("i=p(1," + fill("2", api.MaxParams+1, ",") + ");"), api.ErrSize, api.NCall, 0},
		{in("i=p(1," + fill("2L", 20, ",") + ");"), api.ErrSize, api.NCall, 0},
		{"int f(...){return f(" + fill("2", api.MaxParams+1, ",") + ");}", api.ErrSize, api.NCall, 0},
		{"int f(fn(...)int a){return a(" + fill("2", api.MaxParams+1, ",") + ");}", api.ErrSize, api.NCall, 0},
	})
	mayAll(t, []string{
		in("i=p(1);"),
		in("i=p(1,2);"),
		in("i=p(1," + fill("2L", api.MaxParams, ",") + ");"),
		"int f(...){return f(" + fill("2", api.MaxParams, ",") + ");}",
		"int f(...){return f();}",
		"int z(" + fill("int #", api.MaxParams, ",") + ",...){return z(" + fill("2", 2*api.MaxParams, ",") + ");}",
		"int f(fn(...)int a){return a(" + fill("2", api.MaxParams, ",") + ");}",
	})
}
