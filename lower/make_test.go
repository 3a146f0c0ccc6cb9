package lower_test

import (
	"reflect"
	"slices"
	"strconv"
	"strings"
	"testing"

	"scarfjoint/api"
	"scarfjoint/check"
	"scarfjoint/lower"
	"scarfjoint/types"
)

// fails holds that a text has a fault, the one that check.Check tells, and that nothing is made of it.
func fails(t *testing.T, text string, want api.Fault) {
	t.Helper()
	if _, f := check.Check(text); f != want {
		t.Errorf("%.300q: check tells %v, not %v", text, f, want)
	}
	m, f := lower.Make(text)
	if f != want || len(m.Bodies) != 0 || len(m.Globals) != 0 || len(m.Outsides) != 0 {
		t.Errorf("%.300q: %v %v, not %v", text, m, f, want)
	}
}

// L1: the chapter's example.
func TestExample(t *testing.T) {
	makes(t, "int main(){return 7;}", "body main fn()int")
	exits(t, []string{"int main(){return 7;}"}, 7)
}

// L1, P2: the faults of tokens, of forms, and of each thing that a unit may have wrong; of what stands ahead of them nothing is made either.
func TestFaults(t *testing.T) {
	for text, want := range map[string]api.Fault{
		strings.Repeat(" ", api.MaxText+1):             {Code: api.ErrSize, At: 0},
		"int a=1;@":                                    {Code: api.ErrForm, At: 8},
		"int a=1x;":                                    {Code: api.ErrForm, At: 6},
		"int a=2147483648;":                            {Code: api.ErrRange, At: 6},
		"long a=9223372036854775808L;":                 {Code: api.ErrRange, At: 7},
		"int abcdefghijklmnopq=1;":                     {Code: api.ErrSize, At: 4},
		"int":                                          {Code: api.ErrForm, At: 3},
		"int f(){return 1}":                            {Code: api.ErrForm, At: 16},
		"int f(){return " + dashes(13) + "1;}":         {Code: api.ErrSize, At: 0},
		strings.Repeat("int a=1;", 234):                {Code: api.ErrSize, At: 0},
		"int a=1;s b=1;":                               {Code: api.ErrName, At: 5},
		"extern s f();":                                {Code: api.ErrName, At: 2},
		"struct s{int a;int a;}":                       {Code: api.ErrTwice, At: 4},
		"struct s{int a;}struct s{int a;}":             {Code: api.ErrTwice, At: 4},
		"struct s{" + fieldsOf(7) + "}":                {Code: api.ErrSize, At: 1},
		"int a=1;int a=2;":                             {Code: api.ErrTwice, At: 4},
		"extern int f();int f(){return 1;}":            {Code: api.ErrTwice, At: 3},
		"extern int f;int f=1;":                        {Code: api.ErrTwice, At: 3},
		"int f=1;int f(){return 1;}":                   {Code: api.ErrTwice, At: 4},
		"extern fn()int a;":                            {Code: api.ErrKind, At: 1},
		"int a=1L;":                                    {Code: api.ErrKind, At: 1},
		"long a=1;":                                    {Code: api.ErrKind, At: 1},
		"int f(int a,int a){return 1;}":                {Code: api.ErrTwice, At: 4},
		"int f(){int x=1;long x=1L;return 1;}":         {Code: api.ErrTwice, At: 7},
		"int f(){return g;}":                           {Code: api.ErrName, At: 5},
		"int f(){return f;}":                           {Code: api.ErrKind, At: 5},
		"int f(){return g();}int g(){return 1;}":       {Code: api.ErrName, At: 6},
		"int f(){return (&g)();}":                      {Code: api.ErrName, At: 6},
		"int f(){int x=1L;return 1;}":                  {Code: api.ErrKind, At: 4},
		"int f(){return 1L;}":                          {Code: api.ErrKind, At: 4},
		"int f(){return 1+1L;}":                        {Code: api.ErrKind, At: 5},
		"int f(){return int(4L/2L);}":                  {Code: api.ErrKind, At: 6},
		"int f(){return int(4L%0L);}":                  {Code: api.ErrKind, At: 6},
		"int f(){return int(!0L);}":                    {Code: api.ErrKind, At: 6},
		"int f(int a){return a.b;}":                    {Code: api.ErrKind, At: 7},
		"struct s{int a;}int f(s a){return a.b;}":      {Code: api.ErrName, At: 10},
		"struct s{int a;}int f(){s x=s{};return 1;}":   {Code: api.ErrRange, At: 9},
		"struct s{int a;}int f(){s x=s{1L};return 1;}": {Code: api.ErrKind, At: 9},
		"int f(){return f(1);}":                        {Code: api.ErrRange, At: 5},
		"int f(int a){return f();}":                    {Code: api.ErrRange, At: 7},
		"int f(int a){return f(1L);}":                  {Code: api.ErrKind, At: 7},
		"int f(...){return f(1,1,1,1,1,1,1);}":         {Code: api.ErrSize, At: 5},
		"int f(...){return f(&f);}":                    {Code: api.ErrKind, At: 5},
		"int f(){return count;}":                       {Code: api.ErrForm, At: 5},
		"int f(){return extra(0);}":                    {Code: api.ErrForm, At: 5},
		"int f(...){return extra(0L);}":                {Code: api.ErrKind, At: 5},
		"int f(){if(1L){}return 1;}":                   {Code: api.ErrKind, At: 4},
		"int f(){while(1L){}return 1;}":                {Code: api.ErrKind, At: 4},
		"int f(){put(&f);return 1;}":                   {Code: api.ErrKind, At: 4},
		"int f(){}":                                    {Code: api.ErrForm, At: 3},
		"int f(){return 1;put(1);}":                    {Code: api.ErrForm, At: 3},
		"int f(){while(1){return 1;}}":                 {Code: api.ErrForm, At: 3},
	} {
		fails(t, text, want)
	}
	// What stands ahead of a fault is not made, nor what stands behind it.
	fails(t, "int x=1;extern int y;int z(){return 1;}int a=1L;int b(){return 1;}", api.Fault{Code: api.ErrKind, At: 11})
}

func dashes(n int) string { return strings.Repeat("-", n) }

// fieldsOf writes so many fields.
func fieldsOf(n int) string {
	text := ""
	for at := range n {
		text += "int f" + strconv.Itoa(at) + ";"
	}
	return text
}

// L1: units of nothing, and of structs alone, which make nothing.
func TestNothing(t *testing.T) {
	for _, text := range []string{"", " \n# a note", "struct s{int a;}", "struct s{long a;}struct t{s a;fn(s,...)s b;}"} {
		makes(t, text)
	}
}

// L1: what each declaration makes, static or not, of any number or not.
func TestEachDeclaration(t *testing.T) {
	const s = "struct s{int a;long b;}"
	makes(t, "int a=7;", "global a int 7")
	makes(t, "static int a=7;", "static global a int 7")
	makes(t, "long a=7L;", "global a long 7")
	makes(t, "static long a=-7L;", "static global a long -7")
	makes(t, "extern int a;", "variable a int")
	makes(t, "extern long a;", "variable a long")
	makes(t, "extern int f();", "function f fn()int")
	makes(t, "extern long f(int a,long b,...);", "function f fn(int,long,...)long")
	makes(t, "extern int f(...);", "function f fn(...)int")
	makes(t, "int f(){return 1;}", "body f fn()int")
	makes(t, "static int f(){return 1;}", "static body f fn()int")
	makes(t, "int f(...){return 1;}", "body f fn(...)int")
	makes(t, "static long f(int a,long b,...){return b;}", "static body f fn(int,long,...)long")
	makes(t, s+"s f(s a){return a;}", "body f fn("+s+")"+s)
	makes(t, s+"extern s f(fn(s,...)s a);", "function f fn(fn("+s+",...)"+s+")"+s)
	makes(t, s+"struct t{s x;fn()int y;}static t f(t a,...){return a;}", "static body f fn(struct t{"+s+" x;fn()int y;},...)struct t{"+s+" x;fn()int y;}")
	// A struct's name may be a function's or a variable's, too.
	makes(t, "struct s{int a;}int s=1;struct f{int a;}s f(f a){return s{a.a};}", "body f fn(struct f{int a;})struct s{int a;}", "global s int 1")
}

// permuted gives all rows of a list.
func permuted(l []string) [][]string {
	if len(l) == 0 {
		return [][]string{nil}
	}
	var all [][]string
	for at := range l {
		rest := slices.Delete(slices.Clone(l), at, at+1)
		for _, row := range permuted(rest) {
			all = append(all, append([]string{l[at]}, row...))
		}
	}
	return all
}

// L1: in each order of declarations those of a sort stand as in the text.
func TestOrderOfDeclarations(t *testing.T) {
	rows := map[string]string{
		"int b1(){return 1;}":          "body b1 fn()int",
		"static long b2(){return 1L;}": "static body b2 fn()long",
		"int g1=1;":                    "global g1 int 1",
		"static long g2=-2L;":          "static global g2 long -2",
		"extern int o1();":             "function o1 fn()int",
		"extern long o2;":              "variable o2 long",
		"struct s{int a;}":             "",
	}
	var texts []string
	for text := range rows {
		texts = append(texts, text)
	}
	slices.Sort(texts)
	for _, row := range permuted(texts) {
		var want []string
		for _, sort := range []string{"b", "g", "o"} {
			for _, text := range row {
				// Each has its sort as the first letter of its name.
				if strings.Contains(rows[text], " "+sort) {
					want = append(want, rows[text])
				}
			}
		}
		if len(want) != 6 {
			t.Fatal(want)
		}
		makes(t, strings.Join(row, ""), want...)
	}
}

// L1: the numbers of globals, from the least to the greatest, also as the program has them at first.
func TestNumbersOfGlobals(t *testing.T) {
	for _, n := range []int64{0, 1, -1, 7, 65535, 65536, -65536, most, -most} {
		text := "int a=" + strconv.FormatInt(n, 10) + ";"
		makes(t, text, "global a int "+strconv.FormatInt(n, 10))
		does(t, text, "put(a);", int32(n))
	}
	for _, n := range []int64{0, 1, -1, most, most + 1, -most, least, least - 1, 1<<32 - 1, 1 << 32, -1 << 32, 1<<63 - 1, -(1<<63 - 1)} {
		text := "static long a=" + strconv.FormatInt(n, 10) + "L;"
		makes(t, text, "static global a long "+strconv.FormatInt(n, 10))
		does(t, text, "put(a);", int32(n), int32(n>>32))
	}
	makes(t, "int a=-0;long b=-0L;", "global a int 0", "global b long 0")
}

// L1, P2: types stand there whole, and what is not named is zero.
func TestWholeUnit(t *testing.T) {
	whole, long := api.Type{Kind: api.TInt}, api.Type{Kind: api.TLong}
	s := api.Type{Kind: api.TStruct, Name: "s", Names: []string{"a", "b"}, Parts: []api.Type{whole, long}}
	f := api.Type{Kind: api.TFn, Parts: []api.Type{s, whole}, Many: true}
	m := madeOf(t, "struct s{int a;long b;}extern int e(s x,...);static int f(s x,...){return 1;}extern long v;static int g=-3;int h(s x,...){return 2;}long i=4L;")
	for at := range m.Bodies {
		if m.Bodies[at].Regs < 4 || len(m.Bodies[at].Code) < 2 {
			t.Error(m.Bodies[at])
		}
		m.Bodies[at].Regs, m.Bodies[at].Code = 0, nil
	}
	want := api.Made{
		Bodies:   []api.Body{{Name: "f", Static: true, Type: f}, {Name: "h", Type: f}},
		Globals:  []api.Global{{Name: "g", Static: true, Type: whole, Value: -3}, {Name: "i", Type: long, Value: 4}},
		Outsides: []api.Outside{{Name: "e", Type: f, Fun: true}, {Name: "v", Type: long}},
	}
	if !reflect.DeepEqual(m, want) {
		t.Errorf("%+v", m)
	}
}

// L1: the parameters' words are in the first registers, whatever is done with them.
func TestParametersLieFirst(t *testing.T) {
	m := madeOf(t, "struct s{int a;long b;int c;}int f(int a,s b,long c,fn()int d){return b.c;}")
	if b := m.Bodies[0]; b.Regs < 10 || len(b.Code) != 1 || b.Code[0].Op != api.TReturn || !slices.Equal(b.Code[0].S, []int{1 + 4}) {
		t.Error(b)
	}
}

// L1: as many words of parameters and of locals as there may be, also handed on; and functions elsewhere that have more.
func TestMostWords(t *testing.T) {
	const s = "struct s{long a;long b;long c;long d;long e;long f;}struct q{long a;long b;}"
	const params = "s a,s b,s c,q d"
	m := madeOf(t, s+"long f("+params+"){return a.a+b.b+c.f+d.b;}long g("+params+"){return f(a,b,c,d);}")
	if m.Bodies[0].Regs < api.MaxLocals {
		t.Error(m.Bodies[0].Regs)
	}
	fails(t, s+"long f("+params+",int e){return 1L;}", api.Fault{Code: api.ErrSize, At: 19})
	const locals = "s a=s{1L,2L,3L,4L,5L,6L};s b=a;s c=b;q d=q{c.e,c.f};"
	makes(t, s+"long f(){"+locals+"return d.b;}", "body f fn()long")
	fails(t, s+"long f(){"+locals+"int e=1;return d.b;}", api.Fault{Code: api.ErrSize, At: 44})
	exits(t, []string{s + "long f(" + params + "){put(a.a);put(b.f);put(c.c);put(d.a);return d.b;}int main(){" + locals + "a.a=7L;b.f=8L;put(f(a,b,c,d));return 9;}"}, 9, 7, 0, 8, 0, 3, 0, 5, 0, 6, 0)
	// A function of 72 words has no block anywhere, but may be spoken of.
	m = madeOf(t, s+"extern s f(s a,s b,s c,s d,s e,s f,...);s g(s x){fn(s,s,s,s,s,s,...)s h=&f;return f(h(x,x,x,x,x,x,1L,2L,3L,4L,5L,6L),x,x,x,x,x,1,2L,3,4L,5,6L);}")
	if types.Words(m.Outsides[0].Type.Parts[0]) != 12 {
		t.Error(m.Outsides)
	}
}
