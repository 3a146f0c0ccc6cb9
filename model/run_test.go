package model_test

import (
	"slices"
	"testing"

	"scarfjoint/api"
	"scarfjoint/model"
)

func same(a, b api.Shown) bool {
	return a.End == b.End && a.Value == b.Value && a.Steps == b.Steps && slices.Equal(a.Out, b.Out)
}

// shows holds what a program shows.
func shows(t *testing.T, texts []string, fuel int, want api.Shown) {
	t.Helper()
	s, trouble := model.Run(texts, fuel)
	if trouble != (api.Trouble{}) || !same(s, want) {
		t.Errorf("%.400q %d: %v %v, not %v", texts, fuel, s, trouble, want)
	}
}

// exits holds what a program shows that has fuel enough, just so much as it needs, and one less.
func exits(t *testing.T, texts []string, value int32, steps int, out ...int32) {
	t.Helper()
	want := api.Shown{End: api.RunExit, Value: value, Steps: steps, Out: out}
	shows(t, texts, api.MaxSteps, want)
	shows(t, texts, steps, want)
	if s, trouble := model.Run(texts, steps-1); trouble.Code != api.OK || s.End != api.RunFuel || s.Value != 0 || s.Steps != steps-1 {
		t.Errorf("%.400q: %v %v with %d", texts, s, trouble, steps-1)
	}
}

// does holds what statements in main tell, and how many steps they have by themselves.
func does(t *testing.T, ahead, statements string, steps int, out ...int32) {
	t.Helper()
	exits(t, []string{ahead + "int main(){" + statements + "return 0;}"}, 0, steps+2, out...)
}

// told is what an expression is told as: its steps, and its words.
type told struct {
	text  string
	steps int
	out   []int32
}

func one(n int32) []int32 { return []int32{n} }

func pair(low, high int32) []int32 { return []int32{low, high} }

func tellAll(t *testing.T, ahead string, rows []told) {
	t.Helper()
	for _, r := range rows {
		does(t, ahead, "put("+r.text+");", r.steps+1, r.out...)
	}
}

const (
	least = -2147483648
	most  = 2147483647
)

// H5: the chapter's example.
func TestExample(t *testing.T) {
	exits(t, []string{"int main(){put(6*7);return 1;}"}, 1, 6, 42)
}

// H3, H4: numbers, signs and what is turned into another type, with their steps.
func TestUnary(t *testing.T) {
	tellAll(t, "", []told{
		{"0", 1, one(0)},
		{"2147483647", 1, one(most)},
		{"0L", 1, pair(0, 0)},
		{"7L", 1, pair(7, 0)},
		{"4294967295L", 1, pair(-1, 0)},
		{"4294967296L", 1, pair(0, 1)},
		{"9223372036854775807L", 1, pair(-1, most)},
		{"-5", 2, one(-5)},
		{"--5", 3, one(5)},
		{"-0", 2, one(0)},
		{"-(-2147483647-1)", 5, one(least)},
		{"-5L", 2, pair(-5, -1)},
		{"-4294967296L", 2, pair(0, -1)},
		{"-(-9223372036854775807L-1L)", 5, pair(0, least)},
		{"!0", 2, one(1)},
		{"!1", 2, one(0)},
		{"!7", 2, one(0)},
		{"!-1", 3, one(0)},
		{"!!7", 3, one(1)},
		{"int(3)", 2, one(3)},
		{"int(-3)", 3, one(-3)},
		{"int(3L)", 2, one(3)},
		{"int(4294967298L)", 2, one(2)},
		{"int(4294967295L)", 2, one(-1)},
		{"int(-4294967296L)", 3, one(0)},
		{"int(2147483648L)", 2, one(least)},
		{"long(3)", 2, pair(3, 0)},
		{"long(-3)", 3, pair(-3, -1)},
		{"long(-2147483647-1)", 5, pair(least, -1)},
		{"long(3L)", 2, pair(3, 0)},
		{"long(-4294967296L)", 3, pair(0, -1)},
		{"long(int(4294967295L))", 3, pair(-1, -1)},
		{"((7))", 1, one(7)},
	})
}

// H4: each operation on ints.
func TestOperationsOnInts(t *testing.T) {
	tellAll(t, "int l=-2147483647;", []told{
		{"2+3", 3, one(5)},
		{"2147483647+1", 3, one(least)},
		{"2-3", 3, one(-1)},
		{"l-2", 3, one(most)},
		{"6*7", 3, one(42)},
		{"65536*65536", 3, one(0)},
		{"2147483647*2", 3, one(-2)},
		{"7/2", 3, one(3)},
		{"-7/2", 4, one(-3)},
		{"7/-2", 4, one(-3)},
		{"(l-1)/-1", 6, one(least)},
		{"7%2", 3, one(1)},
		{"-7%2", 4, one(-1)},
		{"7%-2", 4, one(1)},
		{"(l-1)%-1", 6, one(0)},
		{"12&10", 3, one(8)},
		{"12|10", 3, one(14)},
		{"12^10", 3, one(6)},
		{"-1^0", 4, one(-1)},
		{"1<2", 3, one(1)},
		{"2<2", 3, one(0)},
		{"-1<0", 4, one(1)},
		{"0<-1", 4, one(0)},
		{"3==3", 3, one(1)},
		{"3==-3", 4, one(0)},
		{"1+2*3-4", 7, one(3)},
		{"10-4-3", 5, one(3)},
		{"100/10/2", 5, one(5)},
		{"1+1==2", 5, one(1)},
	})
}

// H4: each operation on longs; one that asks answers an int.
func TestOperationsOnLongs(t *testing.T) {
	tellAll(t, "long l=-9223372036854775807L;", []told{
		{"2L+3L", 3, pair(5, 0)},
		{"4294967295L+1L", 3, pair(0, 1)},
		{"9223372036854775807L+1L", 3, pair(0, least)},
		{"2L-3L", 3, pair(-1, -1)},
		{"4294967296L-1L", 3, pair(-1, 0)},
		{"l-2L", 3, pair(-1, most)},
		{"6L*7L", 3, pair(42, 0)},
		{"65536L*65536L", 3, pair(0, 1)},
		{"4294967296L*4294967296L", 3, pair(0, 0)},
		{"-3L*4294967297L", 4, pair(-3, -4)},
		{"4294967308L&4294967306L", 3, pair(8, 1)},
		{"12L|4294967296L", 3, pair(12, 1)},
		{"4294967308L^4294967306L", 3, pair(6, 0)},
		{"1L<2L", 3, one(1)},
		{"1L<4294967296L", 3, one(1)},
		{"4294967296L<1L", 3, one(0)},
		{"-1L<0L", 4, one(1)},
		{"2L<2L", 3, one(0)},
		{"5L==5L", 3, one(1)},
		{"4294967301L==5L", 3, one(0)},
		{"(1L<2L)+(3L==3L)", 7, one(2)},
	})
}

// H4, H5: a division by 0 ends the run, behind both of its sides; what was told stays.
func TestDivided(t *testing.T) {
	for _, r := range []struct {
		ahead, statements string
		steps             int
		out               []int32
	}{
		{"", "return 1/0;", 4, nil},
		{"", "return 1%0;", 4, nil},
		{"", "return 0/0;", 4, nil},
		{"", "put(5);return (0-2147483647-1)/0;", 10, one(5)},
		{"", "put(5);put(6/(3-3));return 9;", 8, one(5)},
		{"int f(){put(7);return 0;}", "put(5);put(1%f());return 9;", 10, []int32{5, 7}},
		{"int f(){put(7);return 1/0;}", "put(f());return 9;", 8, one(7)},
		{"int g=0;int f(int n){if(n){return f(n-1);}return 1/g;}", "return f(2);", 23, nil},
		{"", "while(1){if(1/0){put(1);}}return 9;", 6, nil},
		{"", "int x=1/0;put(x);return 9;", 4, nil},
	} {
		texts := []string{r.ahead + "int main(){" + r.statements + "}"}
		want := api.Shown{End: api.RunDivided, Steps: r.steps, Out: r.out}
		shows(t, texts, api.MaxSteps, want)
		shows(t, texts, r.steps, want)
		want.End, want.Steps = api.RunFuel, r.steps-1
		shows(t, texts, r.steps-1, want)
	}
}

// H3: each kind of statement, with its steps.
func TestStatements(t *testing.T) {
	does(t, "", "", 0)
	does(t, "", "int x=5;", 2)
	does(t, "", "int x=5;put(x);", 4, 5)
	does(t, "", "long x=5L;put(x);", 4, 5, 0)
	does(t, "", "int x=5;x=6;put(x);", 6, 6)
	does(t, "", "int x=5;x=x+1;put(x);", 8, 6)
	does(t, "int f(){return 5;}", "f();", 4)
	does(t, "", "if(1){}", 2)
	does(t, "", "if(0){}", 2)
	does(t, "", "if(0){}else{}", 2)
	does(t, "", "if(1){put(1);}", 4, 1)
	does(t, "", "if(0){put(1);}", 2)
	does(t, "", "if(1){put(1);}else{put(2);}", 4, 1)
	does(t, "", "if(0){put(1);}else{put(2);}", 4, 2)
	does(t, "", "if(-1){put(1);}else{put(2);}", 5, 1)
	does(t, "", "if(2147483647+2147483647+2){put(1);}else{put(2);}", 8, 2)
	does(t, "", "while(0){put(1);}", 2)
	// While is begun once, its first kid once a turn.
	does(t, "", "int x=3;while(x){x=x-1;}", 2+1+3*5+1)
	does(t, "", "int x=2;while(x){put(x);x=x-1;}put(x);", 2+1+2*(1+2+4)+1+2, 2, 1, 0)
	does(t, "", "int x=-1;while(x){x=x+1;}put(x);", 3+1+1+4+1+2, 0)
	does(t, "", "put(1);put(2L);put(3);", 6, 1, 2, 0, 3)
}

// H3: fuel, from none on: the run ends ahead of the step for which there is none, and what was told stays.
func TestEachFuel(t *testing.T) {
	text := []string{"int f(int a){put(a);return a+1;}int g=2;int main(){put(1L);g=f(g);while(g<5){g=g+1;}return g;}"}
	// How many words were told ahead of each step from 0 on; behind the last one the run has its end.
	told := []int{
		0, 0, // put, 1L
		2, 2, 2, // set, call, g
		2, 2, // put, a
		3, 3, 3, 3, // return, +, a, 1
		3,       // while
		3, 3, 3, // <, g, 5: 3
		3, 3, 3, 3, // set, +, g, 1: 4
		3, 3, 3, // 4
		3, 3, 3, 3, // 5
		3, 3, 3, // 5
		3, 3, // return, g
	}
	out := []int32{1, 0, 2}
	for fuel := range told {
		shows(t, text, fuel, api.Shown{End: api.RunFuel, Steps: fuel, Out: out[:told[fuel]]})
	}
	for fuel := len(told); fuel < len(told)+9; fuel++ {
		shows(t, text, fuel, api.Shown{End: api.RunExit, Value: 5, Steps: len(told), Out: out})
	}
}

// H3: programs without an end stop at just as many steps as there is fuel for.
func TestWithoutEnd(t *testing.T) {
	for _, text := range []string{
		"int main(){while(1){}return 0;}",
		"int main(){return main();}",
		"int f(int a,...){return f(a,count,1L);}int main(){return f(1);}",
		"int main(){while(1){int x=1;if(x){x=2;}}return 0;}",
		"struct s{long a;long b;long c;long d;long e;long f;}s f(s x){return f(f(x));}int main(){f(s{1L,2L,3L,4L,5L,6L});return 0;}",
	} {
		for _, fuel := range []int{0, 1, 2, 3, 4, 5, 100, 999, api.MaxSteps - 1, api.MaxSteps} {
			shows(t, []string{text}, fuel, api.Shown{End: api.RunFuel, Steps: fuel})
		}
	}
}

// H4: recursion, as deep as fuel lets it.
func TestRecursion(t *testing.T) {
	const f = "int f(int n){if(n){return f(n-1)+1;}return 0;}int main(){return f("
	for n := range int32(222) {
		exits(t, []string{f + decimal(n) + ");}"}, n, int(9*n)+4+3)
	}
	shows(t, []string{f + "222);}"}, api.MaxSteps, api.Shown{End: api.RunFuel, Steps: api.MaxSteps})
	const two = "int f(int n){if(n<2){return n;}return f(n-1)+f(n-2);}int main(){put(f(1));put(f(7));return f(5);}"
	s, _ := model.Run([]string{two}, api.MaxSteps)
	if s.End != api.RunExit || s.Value != 5 || !slices.Equal(s.Out, []int32{1, 13}) {
		t.Error(s)
	}
	// Units may call each other in turn.
	exits(t, []string{
		"extern int odd(int n);int even(int n){if(n){return odd(n-1);}return 1;}int main(){put(even(3));return even(4);}",
		"extern int even(int n);int odd(int n){if(n){return even(n-1);}return 0;}",
	}, 1, 1+2+3*7+4+2+1+4*7+4, 0)
}

func decimal(n int32) string {
	if n < 10 {
		return string(rune('0' + n))
	}
	return decimal(n/10) + string(rune('0'+n%10))
}
