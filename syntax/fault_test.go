package syntax_test

import (
	"slices"
	"strings"
	"testing"

	"scarfjoint/api"
	"scarfjoint/lex"
	"scarfjoint/syntax"
)

// fails holds a text's fault against one; P2: there is no node beside it.
func fails(t *testing.T, text string, code api.Errno, at int) {
	t.Helper()
	n, f := syntax.Parse(text)
	if f != (api.Fault{Code: code, At: at}) || !same(n, api.Node{}) {
		t.Errorf("%.200q: %.200s %v, not %v at %d", text, show(n), f, code, at)
	}
}

// Texts with a wrong token, which @ stands ahead of; _ is a blank.
const (
	wrongDeclarations = `
@; @1 @{ @break @else @return @= x@= x@; int@int int@1 int@; int_x@; int_x@, int_x@int int_x@{
struct@int{ struct_s@int struct_s@; struct_s{@} struct_s{int@} struct_s{int_a@} struct_s{int_a@, struct_s{int_a@=
struct_s{int_a;@; struct_s{int_a;}@; struct_s{@static struct_s{@struct
extern@extern extern@static extern@struct extern@; extern_int_x@=1; extern_int_f()@{} extern_int_f@{} extern_int_x;@;
extern_int_f()@, extern_int_f()@} static@extern static@static static@struct static@; static_int_x@; static_int_x@{
int_x=@; int_x=@x; int_x=@!1; int_x=@+1; int_x=-@-1; int_x=-@x; int_x=-@; int_x=1@+1; int_x=1@, int_x=1@2; int_x=1L@2L;
int_x=@(1); int_x@==1;
int_f(@, int_f(@1 int_f(@; int_f(int@, int_f(int@) int_f(int_a@; int_f(int_a@int int_f(int_a,@) int_f(int_a,@,
int_f(...@, int_f(int_a,...@, int_f(int_a,...@... int_f(int@... int_f(int_a@... int_f(...@int
int_f()@; int_f()@=1; int_f()@return int_f()@( int_f(){}@; int_f(){}@}
fn@int fn@x fn(@, fn(@; fn(int@int) fn(int@a) fn(int,@) fn(int,@, fn(...@, fn(int,...@, fn(int@...) fn()@; fn()@( fn()@)`
	wrongStatements = `
@; @{} @1; @(x)(); @-x; @&x; @count; @extra(1); @break; @else{} @struct @static @extern
int@(x); int_x@; int_x@(){} fn()int@= x_y@; x_y@.z=1; x_y@(
x@; x.y@; x@==1; x@+1; x@{}; x@, x@) x@int x()@=1; x.y()@=1; x().y@=1; x().y@; x().y@+ x.@1 x.@. x.@int x.@; x.@(
x.y@z x()@y x()@+1; x=1@=2; x=@; x(@; x(1@; x(1,@) x(@,1) x(@... x(1,@... x()@, x()@) x(1@2)
if@x if@{ if(@) if(1@; if(1)@x if(1)@; if(1){}else@if(1){} if(1){}else{}@else{}
while@{ while@x while(@) while(1)@; while(1){}@else{}
return@; return@} return_1@} return_1@2; return@return put@1; put@; put(@) put(1@, put(1)@} put(1)@.x; put(1)@(1);`
	wrongExpressions = `
1==2@==3; 1<2@<3; 1==2@<3; 1<2@==3; 1==@==2; 1+@*2; 1+@+2; 1+@; 1*@/2; 1&@|2; 1-@< 1@!2; 1@=2; f(1==2@==3)
@*2; @==2; @<2; @+2; @|2; @^2; @%2; @/2; -@; !@) -@+1; @fn @break @if @; @} @,
(@) (1@; (1@,2) 1@) x{@; x{1@; x{1,@} x{1@) x{@, &@1 &@(x) &x@{} &@&x; &@int x(@; x(1,@) x(1@}
int@x int@; int@{ int(@) int(1@, int(1@; long@{ long@) long(@) long(1@; count@{ count@1 extra@; extra@x extra(@) extra(1@,
1@{} 1.@1 1.@; 1@x x.@int x.@( x@y x@1 x@... x()@x x()@{ (x)@{} (x)@x`
)

// F3: the fault is at the first byte of the first wrong token, whatever stands behind it.
func TestFirstWrongToken(t *testing.T) {
	for ahead, rows := range map[string]string{
		"":                    wrongDeclarations,
		"int x=1;":            wrongDeclarations,
		"int f(){":            wrongStatements,
		"int f(){x=1;if(1){":  wrongStatements,
		"int f(){return ":     wrongExpressions,
		"int f(){int x=(1)+(": strings.ReplaceAll(wrongExpressions, "1@)", "1@;"),
	} {
		for _, row := range strings.Fields(rows) {
			text := strings.ReplaceAll(ahead+row, "_", " ")
			at := strings.IndexByte(text, '@') + 1
			text = strings.ReplaceAll(text, "@", " ")
			for _, behind := range []string{"", " ", "#", "\n}", " ;;", " int x", " 1 1"} {
				fails(t, text+behind, api.ErrForm, at)
			}
		}
	}
}

// F3: a text that is a unit's beginning alone has its fault at its length, blanks and notes and all.
func TestTextsThatEnd(t *testing.T) {
	for _, text := range units {
		tokens := strings.Fields(text)
		for whole := range tokens {
			begin := strings.Join(tokens[:whole], " ")
			if begin == "" || endsDeclaration(tokens[:whole]) {
				parse(t, begin)
				continue
			}
			for _, behind := range []string{"", " ", "  \n ", "# }", "\n#;\n"} {
				fails(t, begin+behind, api.ErrForm, len(begin+behind))
			}
		}
	}
	for _, text := range []string{"int", "int x", "int x=", "int x=-", "int x=1", "static", "extern", "struct", "x", "fn", "fn(", "int f(", "int f()", "int f(){", "int f(){if(1){}", "int f(){x", "int f(){x.", "int f(){x()", "int f(){x().y", "int f(){return", "int f(){return 1"} {
		fails(t, text, api.ErrForm, len(text))
	}
}

// endsDeclaration says whether no brace is open, and a declaration's last token is there.
func endsDeclaration(tokens []string) bool {
	open := 0
	for _, token := range tokens {
		switch token {
		case "{":
			open++
		case "}":
			open--
		}
	}
	last := tokens[len(tokens)-1]
	return open == 0 && (last == ";" || last == "}")
}

// F1: words that D1 bars are no names, wherever a name is asked for.
func TestBarredWords(t *testing.T) {
	for _, word := range barred {
		for _, ahead := range []string{"struct ", "struct s{int ", "extern int ", "int ", "static long ", "int f(int ", "int f(){int ", "int f(){x.", "int f(){x().", "int f(){return x.", "int f(){return &", "extern s ", "fn()int "} {
			fails(t, ahead+word+" ;", api.ErrForm, len(ahead))
		}
		if !slices.Contains([]string{"int", "long", "fn"}, word) {
			for _, ahead := range []string{"struct s{", "extern ", "static ", "int f(", "fn(", "fn(int,", "extern fn()"} {
				fails(t, ahead+word+" x;", api.ErrForm, len(ahead))
			}
		}
		if !slices.Contains([]string{"int", "long", "count", "extra"}, word) {
			for _, ahead := range []string{"int f(){return ", "int f(){x=", "int f(){x(", "int f(){x(1,", "int f(){return -", "int f(){return 1+", "int f(){return 1<", "int f(){return (", "int f(){if(", "int f(){put(", "int f(){return x{"} {
				fails(t, ahead+word+" ;", api.ErrForm, len(ahead))
			}
		}
		parse(t, strings.ReplaceAll("struct Q{Q Q;}extern Q Q;extern fn(Q)Q Q(Q Q);Q Q=1;Q Q(Q Q){Q Q=Q;Q.Q=&Q;Q.Q(Q);return Q{Q}.Q;}", "Q", word+"_"))
	}
}

// F3: Scan's fault is told, though a wrong token stands ahead of it.
func TestScanFaultFirst(t *testing.T) {
	for text, want := range map[string]api.Fault{
		"; @":                                  {Code: api.ErrForm, At: 2},
		"int x @":                              {Code: api.ErrForm, At: 6},
		"} 2147483648":                         {Code: api.ErrRange, At: 2},
		"int x=2147483648;":                    {Code: api.ErrRange, At: 6},
		"int x=-2147483648;":                   {Code: api.ErrRange, At: 7},
		"long x=-9223372036854775808L;":        {Code: api.ErrRange, At: 8},
		"= = abcdefghijklmnopq":                {Code: api.ErrSize, At: 4},
		"int f(){return 1==2==3;}" + "\x00":    {Code: api.ErrForm, At: 24},
		";" + strings.Repeat(" ", api.MaxText): {Code: api.ErrSize},
		strings.Repeat("int x=1;", 501):        {Code: api.ErrSize},
	} {
		_, scanned := lex.Scan(text)
		if scanned != want {
			t.Fatal(text, scanned)
		}
		fails(t, text, want.Code, want.At)
	}
	fails(t, ";"+strings.Repeat(" ", api.MaxText-1), api.ErrForm, 0)
	fails(t, "int x"+strings.Repeat(" ", api.MaxText-5), api.ErrForm, api.MaxText)
}
