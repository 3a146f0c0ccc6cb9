package model_test

import (
	"math"
	"slices"
	"strings"
	"testing"

	"scarfjoint/api"
	"scarfjoint/model"
)

const plain = "int main(){return 0;}"

// troubles holds that both calls tell just this trouble of some texts.
func troubles(t *testing.T, texts []string, want api.Trouble) {
	t.Helper()
	if got := model.Check(texts); got != want {
		t.Errorf("%.300q: %v, not %v", texts, got, want)
	}
	s, got := model.Run(texts, 100)
	if got != want {
		t.Errorf("%.300q: a run's %v, not %v", texts, got, want)
	}
	if got.Code != api.OK && !isZero(s) {
		t.Errorf("%.300q: %v beside a trouble", texts, s)
	}
}

func isZero(s api.Shown) bool {
	return s.End == 0 && s.Value == 0 && s.Steps == 0 && len(s.Out) == 0
}

// row is some texts, with their trouble.
type row struct {
	texts []string
	want  api.Trouble
}

func troubleAll(t *testing.T, rows []row) {
	t.Helper()
	for _, r := range rows {
		troubles(t, r.texts, r.want)
	}
}

// H1: how many units there may be.
func TestHowManyUnits(t *testing.T) {
	none := api.Trouble{Code: api.ErrSize}
	troubles(t, nil, none)
	troubles(t, []string{}, none)
	texts := []string{plain}
	for range api.MaxUnits {
		troubles(t, texts, api.Trouble{})
		texts = append(texts, "")
	}
	troubles(t, texts, none)
	troubles(t, append(texts, "", ""), none)
	troubles(t, make([]string, 5000), none)
	// Ahead of all that units may have, even texts that are none.
	troubles(t, []string{"@", "@", "@", "@", "@"}, none)
	troubles(t, []string{plain, plain, plain, plain, plain}, none)
}

// H1: the fault of check.Check of each unit, with its Unit and its place: of a text that is no unit a byte, else a node.
func TestFaultsOfUnits(t *testing.T) {
	troubleAll(t, []row{
		{[]string{"@"}, api.Trouble{Code: api.ErrForm}},
		{[]string{"int"}, api.Trouble{Code: api.ErrForm, At: 3}},
		{[]string{plain, "  @"}, api.Trouble{Unit: 1, Code: api.ErrForm, At: 2}},
		{[]string{plain, "", "", "int g=2147483648;"}, api.Trouble{Unit: 3, Code: api.ErrRange, At: 6}},
		{[]string{plain, strings.Repeat(" ", api.MaxText+1)}, api.Trouble{Unit: 1, Code: api.ErrSize}},
		{[]string{plain, "", "int f(int x){int x=1;return x;}"}, api.Trouble{Unit: 2, Code: api.ErrTwice, At: 6}},
		{[]string{"int main(){return f();}", "int f(){return 1;}"}, api.Trouble{Code: api.ErrName, At: 6}},
		{[]string{"int main(){return 1L;}"}, api.Trouble{Code: api.ErrKind, At: 4}},
		{[]string{plain, "int f(){return f(1);}"}, api.Trouble{Unit: 1, Code: api.ErrRange, At: 5}},
		{[]string{plain, "int f(){}"}, api.Trouble{Unit: 1, Code: api.ErrForm, At: 3}},
		// Names of another unit are not known here.
		{[]string{"int g=1;" + plain, "int f(){return g;}"}, api.Trouble{Unit: 1, Code: api.ErrName, At: 5}},
		{[]string{"struct s{int a;}" + plain, "s f(s x){return x;}"}, api.Trouble{Unit: 1, Code: api.ErrName, At: 3}},
		// Of two units the one that is ahead.
		{[]string{"int f(){}", "@"}, api.Trouble{Code: api.ErrForm, At: 3}},
		{[]string{"@", "int f(){}"}, api.Trouble{Code: api.ErrForm}},
	})
}

// H1: a name that two units have, both not static: the one behind is told, by its node's number.
func TestTwice(t *testing.T) {
	troubleAll(t, []row{
		{[]string{plain, plain}, api.Trouble{Unit: 1, Code: api.ErrTwice, At: 1}},
		{[]string{"int f(){return 1;}" + plain, "long g=1L;int f(){return 1;}"}, api.Trouble{Unit: 1, Code: api.ErrTwice, At: 4}},
		{[]string{plain, "int g=1;", "struct s{int a;}int g=1;"}, api.Trouble{Unit: 2, Code: api.ErrTwice, At: 4}},
		{[]string{"int a=1;" + plain, "", "", "int a(int b,...){return b;}"}, api.Trouble{Unit: 3, Code: api.ErrTwice, At: 1}},
		{[]string{"int a(int b,...){return b;}" + plain, "int z=1;long a=-1L;"}, api.Trouble{Unit: 1, Code: api.ErrTwice, At: 4}},
		{[]string{"int f(int a,...){return 1;}" + plain, "int f(int a,...){return 1;}"}, api.Trouble{Unit: 1, Code: api.ErrTwice, At: 1}},
		// The first unit that has one of a unit ahead, and its first one.
		{[]string{"int a=1;int b=1;" + plain, "int c=1;", "int c=1;int b=1;int a=1;"}, api.Trouble{Unit: 2, Code: api.ErrTwice, At: 1}},
		{[]string{"int a=1;int b=1;" + plain, "int c=1;int b=1;int a=1;", "int c=1;"}, api.Trouble{Unit: 1, Code: api.ErrTwice, At: 4}},
		{[]string{"int a=1;" + plain, "int a=1;", "int a=1;"}, api.Trouble{Unit: 1, Code: api.ErrTwice, At: 1}},
		// Structs have names of their own, and each unit its own ones.
		{[]string{"struct s{int a;}" + plain, "struct s{long a;}", "int s=1;"}, api.Trouble{}},
		{[]string{"struct main{int a;}" + plain, "struct main{long a;}"}, api.Trouble{}},
	})
}

// H1: what is static is seen by its own unit alone.
func TestStatic(t *testing.T) {
	const (
		f, shared   = "static int f(){return 1;}", "int f(){return 1;}"
		many        = "static int f(int a,...){return 1;}"
		g, sharedG  = "static int g=1;", "int g=1;"
		externF     = "extern int f();"
		outsideG    = "extern int g;"
		mainOfOwnFG = "int main(){return f()+g;}"
	)
	troubleAll(t, []row{
		{[]string{f + g + mainOfOwnFG, f + g, f + g, f + g}, api.Trouble{}},
		{[]string{f + g + mainOfOwnFG, shared + sharedG}, api.Trouble{}},
		{[]string{shared + sharedG + mainOfOwnFG, f + g}, api.Trouble{}},
		{[]string{many + plain, many, shared, many}, api.Trouble{}},
		{[]string{f + plain, shared, g, shared}, api.Trouble{Unit: 3, Code: api.ErrTwice, At: 1}},
		{[]string{shared + plain, f, g, shared}, api.Trouble{Unit: 3, Code: api.ErrTwice, At: 1}},
		{[]string{f + plain, externF}, api.Trouble{Unit: 1, Code: api.ErrName, At: 1}},
		{[]string{many + plain, "extern int f(int a,...);"}, api.Trouble{Unit: 1, Code: api.ErrName, At: 1}},
		{[]string{g + plain, outsideG}, api.Trouble{Unit: 1, Code: api.ErrName, At: 1}},
		{[]string{externF + outsideG + plain, f + g}, api.Trouble{Code: api.ErrName, At: 1}},
		{[]string{externF + outsideG + mainOfOwnFG, f + g, shared, sharedG}, api.Trouble{}},
		// One that is static is not held against what others ask for.
		{[]string{externF + plain, "static long f(){return 1L;}", shared}, api.Trouble{}},
		{[]string{outsideG + plain, "static long g=1L;", sharedG}, api.Trouble{}},
		// In its own unit an extern is declared twice by it.
		{[]string{plain, externF + f}, api.Trouble{Unit: 1, Code: api.ErrTwice, At: 3}},
	})
}

// H1: functions that stand elsewhere.
func TestExterns(t *testing.T) {
	const extern, f = "extern int f(int a);", "int f(int b){return b;}"
	troubleAll(t, []row{
		{[]string{extern + plain, f}, api.Trouble{}},
		{[]string{f + plain, extern}, api.Trouble{}},
		{[]string{plain, extern, f, extern}, api.Trouble{}},
		{[]string{plain, "extern int main();"}, api.Trouble{}},
		{[]string{f + extern + plain}, api.Trouble{Code: api.ErrTwice, At: 8}},
		{[]string{plain, extern + f}, api.Trouble{Unit: 1, Code: api.ErrTwice, At: 5}},
		{[]string{plain, "int g=1;" + extern}, api.Trouble{Unit: 1, Code: api.ErrName, At: 4}},
		{[]string{plain, extern, extern}, api.Trouble{Unit: 1, Code: api.ErrName, At: 1}},
		{[]string{plain, "struct f{int a;}", extern}, api.Trouble{Unit: 2, Code: api.ErrName, At: 1}},
		{[]string{"int f=1;" + plain, extern}, api.Trouble{Unit: 1, Code: api.ErrKind, At: 1}},
		{[]string{extern + plain, "int f=1;"}, api.Trouble{Code: api.ErrKind, At: 1}},
		{[]string{f + plain, "extern int f();"}, api.Trouble{Unit: 1, Code: api.ErrKind, At: 1}},
		{[]string{f + plain, "extern int f(long a);"}, api.Trouble{Unit: 1, Code: api.ErrKind, At: 1}},
		{[]string{f + plain, "extern long f(int a);"}, api.Trouble{Unit: 1, Code: api.ErrKind, At: 1}},
		{[]string{f + plain, "extern int f(int a,int b);"}, api.Trouble{Unit: 1, Code: api.ErrKind, At: 1}},
		{[]string{f + plain, "extern int f(int a,...);"}, api.Trouble{Unit: 1, Code: api.ErrKind, At: 1}},
		{[]string{"int f(int b,...){return b;}" + plain, extern}, api.Trouble{Unit: 1, Code: api.ErrKind, At: 1}},
		{[]string{"int f(int b,...){return b;}" + plain, "extern int f(int c,...);"}, api.Trouble{}},
		{[]string{"int f(...){return 1;}" + plain, "extern int f(...);"}, api.Trouble{}},
		{[]string{"int f(fn(int)int a){return 1;}" + plain, "extern int f(fn(int)int z);"}, api.Trouble{}},
		{[]string{"int f(fn(int)int a){return 1;}" + plain, "extern int f(fn(int,...)int z);"}, api.Trouble{Unit: 1, Code: api.ErrKind, At: 1}},
	})
}

// H1: structs of two units are the same where they are written alike.
func TestTypesOfTwoUnits(t *testing.T) {
	const f = "struct s{int a;long b;}s f(s x){return x;}"
	other := api.Trouble{Unit: 1, Code: api.ErrKind, At: 6}
	troubleAll(t, []row{
		{[]string{f + plain, "struct s{int a;long b;}extern s f(s y);"}, api.Trouble{}},
		{[]string{f + plain, "struct r{int a;long b;}extern r f(r y);"}, other},
		{[]string{f + plain, "struct s{int c;long b;}extern s f(s y);"}, other},
		{[]string{f + plain, "struct s{int a;int b;}extern s f(s y);"}, other},
		{[]string{f + plain, "struct s{long a;int b;}extern s f(s y);"}, other},
		{[]string{f + plain, "struct s{int a;}extern s f(s y);"}, api.Trouble{Unit: 1, Code: api.ErrKind, At: 4}},
	})
}

// H1: variables that stand elsewhere.
func TestOutsides(t *testing.T) {
	const outside, g = "extern int g;", "int g=5;"
	troubleAll(t, []row{
		{[]string{outside + plain, g}, api.Trouble{}},
		{[]string{g + plain, outside}, api.Trouble{}},
		{[]string{plain, outside, g, outside}, api.Trouble{}},
		{[]string{"extern long g;" + plain, "long g=5L;"}, api.Trouble{}},
		{[]string{g + outside + plain}, api.Trouble{Code: api.ErrTwice, At: 4}},
		{[]string{plain, outside + g}, api.Trouble{Unit: 1, Code: api.ErrTwice, At: 3}},
		{[]string{plain, "extern long g;", "extern int g;"}, api.Trouble{Unit: 1, Code: api.ErrName, At: 1}},
		{[]string{plain, "int f(){return 1;}" + outside}, api.Trouble{Unit: 1, Code: api.ErrName, At: 6}},
		{[]string{g + plain, "extern long g;"}, api.Trouble{Unit: 1, Code: api.ErrKind, At: 1}},
		{[]string{"extern int g;" + plain, "long g=5L;"}, api.Trouble{Code: api.ErrKind, At: 1}},
		{[]string{"int g(){return 5;}" + plain, outside}, api.Trouble{Unit: 1, Code: api.ErrKind, At: 1}},
		{[]string{plain, "extern int main;"}, api.Trouble{Unit: 1, Code: api.ErrKind, At: 1}},
	})
}

// H1: main, of which trouble has no place.
func TestMain(t *testing.T) {
	name, kind := api.Trouble{Code: api.ErrName}, api.Trouble{Code: api.ErrKind}
	troubleAll(t, []row{
		{[]string{plain}, api.Trouble{}},
		{[]string{"", "", "", "int g=1;" + plain}, api.Trouble{}},
		{[]string{"static int main(){return 1;}", plain}, api.Trouble{}},
		{[]string{plain, "static int main=1;", "static long main(int a){return 1L;}"}, api.Trouble{}},
		{[]string{""}, name},
		{[]string{"int f(){return 1;}", "int Main(){return 1;}"}, name},
		{[]string{"", "static int main(){return 1;}"}, name},
		{[]string{"", "int main=1;"}, name},
		{[]string{"static int main(int a){return 1;}", "struct main{int a;}"}, name},
		{[]string{"", "long main=1L;", "static int main(){return 1;}"}, name},
		{[]string{"", "int main(int a){return 1;}"}, kind},
		{[]string{"", "int main(...){return 1;}"}, kind},
		{[]string{"", "long main(){return 1L;}"}, kind},
		{[]string{"", "struct s{int a;}s main(){return s{1};}"}, kind},
		{[]string{"", "fn()int main(){return &f;}"}, api.Trouble{Unit: 1, Code: api.ErrName, At: 6}},
		{[]string{"static int main(){return 1;}", "int main(int a,...){return 1;}"}, kind},
	})
}

// H1: of two troubles the one of the sort that is named first; of one sort that of the unit ahead, and there the first one.
func TestWhichTrouble(t *testing.T) {
	const (
		fault  = "int z(){return 1L;}"   // ErrKind at 4
		twice  = "int main(){return 1;}" // ErrTwice at 1, behind another one
		name   = "extern int no();"      // ErrName at 1
		kind   = "extern long main();"   // ErrKind at 1
		noMain = "static int main(){return 1;}"
	)
	troubleAll(t, []row{
		{[]string{plain, twice, fault}, api.Trouble{Unit: 2, Code: api.ErrKind, At: 4}},
		{[]string{name, plain, fault}, api.Trouble{Unit: 2, Code: api.ErrKind, At: 4}},
		{[]string{kind, plain, fault}, api.Trouble{Unit: 2, Code: api.ErrKind, At: 4}},
		{[]string{noMain, fault}, api.Trouble{Unit: 1, Code: api.ErrKind, At: 4}},
		{[]string{fault, "@"}, api.Trouble{Code: api.ErrKind, At: 4}},
		{[]string{name, plain, twice}, api.Trouble{Unit: 2, Code: api.ErrTwice, At: 1}},
		{[]string{kind, plain, twice}, api.Trouble{Unit: 2, Code: api.ErrTwice, At: 1}},
		{[]string{plain, "extern int no();" + twice}, api.Trouble{Unit: 1, Code: api.ErrTwice, At: 3}},
		{[]string{"int main(int a){return 1;}", "int main(int a){return 1;}"}, api.Trouble{Unit: 1, Code: api.ErrTwice, At: 1}},
		{[]string{"int a=1;", "int a=1;"}, api.Trouble{Unit: 1, Code: api.ErrTwice, At: 1}},
		{[]string{plain, name, kind}, api.Trouble{Unit: 1, Code: api.ErrName, At: 1}},
		{[]string{plain, kind, name}, api.Trouble{Unit: 1, Code: api.ErrKind, At: 1}},
		{[]string{plain, kind + name}, api.Trouble{Unit: 1, Code: api.ErrKind, At: 1}},
		{[]string{plain, name + kind}, api.Trouble{Unit: 1, Code: api.ErrName, At: 1}},
		{[]string{plain, "extern int no;" + kind}, api.Trouble{Unit: 1, Code: api.ErrName, At: 1}},
		{[]string{plain, kind + "extern int no;"}, api.Trouble{Unit: 1, Code: api.ErrKind, At: 1}},
		{[]string{plain, "extern int main();extern long nor;" + name}, api.Trouble{Unit: 1, Code: api.ErrName, At: 3}},
		{[]string{noMain, name}, api.Trouble{Unit: 1, Code: api.ErrName, At: 1}},
		{[]string{"", "int main(int a){return 1;}", "extern int main();"}, api.Trouble{Unit: 2, Code: api.ErrKind, At: 1}},
		{[]string{"", "int main=1;", "extern int main();"}, api.Trouble{Unit: 2, Code: api.ErrKind, At: 1}},
		{[]string{"", "int main=1;", "extern int main;"}, api.Trouble{Code: api.ErrName}},
	})
}

// H2: fuel, and that its trouble comes ahead of Check's.
func TestFuelThatMayBe(t *testing.T) {
	for fuel, want := range map[int]api.Errno{
		-1: api.ErrRange, math.MinInt: api.ErrRange, 0: api.OK, 1: api.OK, 2: api.OK, api.MaxSteps: api.OK,
		api.MaxSteps + 1: api.ErrRange, math.MaxInt: api.ErrRange, 1 << 32: api.ErrRange,
	} {
		for _, texts := range [][]string{{plain}, {"@"}, {"", "extern int f();"}, nil, make([]string, api.MaxUnits+1)} {
			trouble := model.Check(texts)
			if want != api.OK {
				trouble = api.Trouble{Code: want}
			}
			s, got := model.Run(texts, fuel)
			if got != trouble || got.Code != api.OK && !isZero(s) {
				t.Errorf("%q %d: %v %v, not %v", texts, fuel, s, got, trouble)
			}
		}
	}
}

// P1: texts of any bytes, and long ones, have an answer.
func TestAnyTexts(t *testing.T) {
	for _, text := range []string{"\x00", "\xff\xfe", strings.Repeat("\x00", 1<<20), strings.Repeat("int f(){", 1<<18), strings.Repeat("(", 3000)} {
		if got := model.Check([]string{plain, text}); got.Code == api.OK || got.Unit != 1 {
			t.Errorf("%.60q: %v", text, got)
		}
	}
	many := strings.Repeat("put(1);", 340)
	shows(t, []string{"int main(){" + many + "return 1;}"}, api.MaxSteps, api.Shown{End: api.RunExit, Value: 1, Steps: 682, Out: slices.Repeat([]int32{1}, 340)})
}

// P3: texts that were handed in stay as they are, what lies behind their length is not read, and Out is new memory.
func TestMemory(t *testing.T) {
	texts := []string{"extern int f();int main(){put(1);put(2L);return f();}", "int f(){return 5;}", "@", "@", "@"}
	kept := slices.Clone(texts)
	s, a := model.Run(texts[:2], 100)
	r, b := model.Run(texts[:2], 100)
	if a.Code != api.OK || b.Code != api.OK || !slices.Equal(s.Out, r.Out) || len(s.Out) != 3 || &s.Out[0] == &r.Out[0] {
		t.Error(s, a, r, b)
	}
	if model.Check(texts[:2]).Code != api.OK || !slices.Equal(texts, kept) {
		t.Error(texts)
	}
}
