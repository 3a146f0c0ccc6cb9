package link_test

import (
	"slices"
	"strconv"
	"strings"
	"testing"

	"scarfjoint/api"
	"scarfjoint/emit"
	"scarfjoint/lower"
	"scarfjoint/machine"
	"scarfjoint/model"
	"scarfjoint/object"
	"scarfjoint/three"
)

// madeOf is texts in orders.
func madeOf(t *testing.T, texts []string) []api.Made {
	t.Helper()
	var l []api.Made
	for _, text := range texts {
		m, f := lower.Make(text)
		if f != (api.Fault{}) {
			t.Fatalf("%q: %+v", text, f)
		}
		l = append(l, m)
	}
	return l
}

// emitted is the objects of units in orders, each of them put down as bytes and read again.
func emitted(t *testing.T, l []api.Made) []api.Object {
	t.Helper()
	var all []api.Object
	for _, m := range l {
		o, e := emit.Make(m)
		b, more := object.Put(o)
		again, last := object.Get(b)
		if e != api.OK || more != api.OK || last != api.OK {
			t.Fatal(e, more, last)
		}
		all = append(all, again)
	}
	return all
}

// runs gives the run of the image of objects, within so many steps.
func runs(t *testing.T, why string, l []api.Object, memory, fuel int) api.Stop {
	t.Helper()
	wellDone(t, why, l, memory)
	s, e := machine.Run(linked(l, memory).image, min(fuel, api.MaxFuel))
	if e != api.OK {
		t.Fatal(why, e)
	}
	return s
}

// endOf is how an image's run ends where that of orders, or of texts, does.
func endOf(run int) int {
	return map[int]int{api.RunExit: api.EndExit, api.RunDivided: api.EndDivided}[run]
}

// means holds the image of texts against what they mean, and against what their orders do (L2, Q2), and gives the latter.
func means(t *testing.T, texts []string) api.Shown {
	t.Helper()
	why := strings.Join(texts, "\n")
	meant, trouble := model.Run(texts, api.MaxSteps)
	if trouble != (api.Trouble{}) || endOf(meant.End) == 0 {
		t.Fatal(why, trouble, meant.End)
	}
	l := madeOf(t, texts)
	want, trouble := three.Run(l, min(60*meant.Steps+60, api.MaxFuel))
	if trouble != (api.Trouble{}) || want.End != meant.End || want.Value != meant.Value || !slices.Equal(want.Out, meant.Out) {
		t.Errorf("%s: %v %+v, not %+v", why, trouble, want, meant)
	}
	for _, steps := range []int{meant.Steps, want.Steps} {
		got := runs(t, why, emitted(t, l), api.MaxMemory, 400*steps+400)
		if got.End != endOf(want.End) || got.Value != want.Value || !slices.Equal(got.Out, want.Out) {
			t.Errorf("%s: %+v, not %+v", why, got, want)
		}
	}
	return want
}

// thing is a declaration of a program that is cut into units: as it stands in its own unit, and in the others.
type thing struct{ own, elsewhere string }

// things are a program's, each of which speaks of those ahead of it, and odd of even, too.
func things() []thing {
	return []thing{
		{"long g=-5L;", "extern long g;"},
		{"int h=3;", "extern int h;"},
		{"s f(int n,s x){if(n==0){return x;}x.b=x.b*x.b+g;x.c=x.c+n;h=h+1;return f(n-1,x);}", "extern s f(int n,s x);"},
		{"int sum(int n,...){int i=0;int t=h;while(i<count){t=t*n+extra(i);i=i+1;}return t;}", "extern int sum(int n,...);"},
		{"w turn(w a,int n){if(n){w b=turn(w{a.y,a.x},n-1);g=g+b.x.b;return b;}return a;}", "extern w turn(w a,int n);"},
		{"int both(fn(int)int k,int n){return k(n)*100+k(n+1);}", "extern int both(fn(int)int k,int n);"},
		{"int odd(int n){if(n){return even(n-1);}return h;}", "extern int odd(int n);"},
		{"int even(int n){if(n){return odd(n-1);}return h+1;}", "extern int even(int n);"},
		{"int main(){s y=f(3,s{1,2L,4});put(y.a);put(y.b);put(y.c);put(sum(7,1,2L,h));w z=turn(w{y,f(1,s{7,g,8})},5);put(z.x.b);put(z.y.b);put(z.x.c);put(both(&odd,9));put(both(&even,h));put(g);return sum(h/(z.x.a-y.a));}", "extern int main();"},
	}
}

// odd and even stand apart: in one unit one of them could not speak of the other one.
const odd, even = 6, 7

// cut is the texts of a program of so many units, of which each thing stands in the one that is told.
func cut(l []thing, units int, where []int) []string {
	texts := make([]string, units)
	for unit := range texts {
		texts[unit] = "struct s{int a;long b;int c;}struct w{s x;s y;}"
		// What stands elsewhere is said ahead of all that stands here.
		for at, x := range l {
			if where[at] != unit {
				texts[unit] += x.elsewhere
			}
		}
		for at, x := range l {
			if where[at] == unit {
				texts[unit] += x.own
			}
		}
	}
	return texts
}

// S2, Q2, L2: one program, cut into two units in each way, and into more of them: however it is cut, its image does what it means.
func TestCuts(t *testing.T) {
	l := things()
	var first api.Shown
	cuts := 0
	holds := func(units int, where []int) {
		if where[odd] == where[even] {
			return
		}
		got := means(t, cut(l, units, where))
		if cuts == 0 {
			first = got
		}
		cuts++
		if got.End != api.RunExit || got.Value != first.Value || len(got.Out) < 14 || !slices.Equal(got.Out, first.Out) {
			t.Fatal(where, got, first)
		}
	}
	for n := range 1 << len(l) {
		where := make([]int, len(l))
		for at := range where {
			where[at] = n >> at & 1
		}
		holds(2, where)
	}
	d := drawer(0xda3e39cb94b95bdb)
	for range 300 {
		units := 3 + d.below(2)
		where := make([]int, len(l))
		for at := range where {
			where[at] = d.below(units)
		}
		holds(units, where)
	}
	if cuts < 400 {
		t.Error("rarely cut", cuts)
	}
}

// Q2: runs that end by a division, in another unit than main's, at the first step and later.
func TestDivided(t *testing.T) {
	for _, texts := range [][]string{
		{"int main(){return 1/0;}"},
		{"extern int f(int n);int main(){put(1);put(f(3));return 7;}", "int f(int n){put(n);if(n==0){return 1%n;}return f(n-1)+1;}"},
		{"extern int v;int w=4;int main(){put(v);return w/(v-9);}", "int v=9;"},
	} {
		if got := means(t, texts); got.End != api.RunDivided {
			t.Error(texts, got)
		}
	}
}

// Q2, Q3: in each memory from the least one on: the run has no room on its stack, and has told no other words till then, or it ends as it should.
func TestLittleMemory(t *testing.T) {
	texts := []string{
		"struct s{long a;long b;long c;}extern s f(s x,int n);int main(){put(8);put(f(s{1L,2L,3L},4).b);return 5;}",
		"struct s{long a;long b;long c;}extern int g;s f(s x,int n){put(n+g);if(n){s y=f(s{x.b,x.c,x.a},n-1);return s{y.a,x.b,y.c};}return x;}",
		"int g=100;",
	}
	want := means(t, texts)
	l := emitted(t, madeOf(t, texts))
	instructions, variables := lengths(l)
	low := 2 + instructions + variables
	met := map[int]int{}
	for memory := low + 16; memory < low+400; memory++ {
		got := runs(t, "little memory", l, memory, 400*want.Steps+400)
		met[got.End]++
		if got.End == api.EndFull && met[api.EndExit] == 0 && len(got.Out) <= len(want.Out) && slices.Equal(got.Out, want.Out[:len(got.Out)]) {
			continue
		}
		if got.End != api.EndExit || got.Value != want.Value || !slices.Equal(got.Out, want.Out) {
			t.Fatalf("memory %d: %+v, not %+v", memory, got, want)
		}
	}
	if met[api.EndFull] < 30 || met[api.EndExit] < 30 {
		t.Error("rarely met", met)
	}
}

// Q4: functions of two units that call each other at the tail, as often as there is fuel, in the least memory.
func TestLastCalls(t *testing.T) {
	for _, n := range []int{0, 1, 2, 999, 1000, 15000} {
		texts := []string{
			"extern int odd(int n,int a,int b,int c,int d);int even(int n,int a,int b,int c,int d){if(n){return odd(n-1,b,c,d,a);}return a;}extern int one(int n);int main(){put(one(" + strconv.Itoa(n) + "));return even(" + strconv.Itoa(n/5) + ",1,2,3,4);}",
			"extern int even(int n,int a,int b,int c,int d);int odd(int n,int a,int b,int c,int d){if(n){return even(n-1,b,c,d,a);}return a+10;}extern int two(int n);int one(int n){if(n){return two(n-1);}return 1;}",
			"extern int one(int n);int two(int n){if(n){return one(n-1);}return 2;}",
		}
		l := emitted(t, madeOf(t, texts))
		instructions, variables := lengths(l)
		memory := max(2+instructions+variables+40, 32)
		got := runs(t, "calls at the tail", l, memory, api.MaxFuel)
		turns := n / 5
		value, out := int32(turns%4+1+turns%2*10), []int32{int32(n%2 + 1)}
		if got.End != api.EndExit || got.Value != value || !slices.Equal(got.Out, out) {
			t.Errorf("%d: %+v, not %d %v", n, got, value, out)
		}
	}
}

// Q2: units in orders that no text has: registers that are read ahead of being written, a struct of which no text knows, a call of itself amid others.
func TestOrders(t *testing.T) {
	whole, long := api.Type{Kind: api.TInt}, api.Type{Kind: api.TLong}
	x := api.Type{Kind: api.TFn, Parts: []api.Type{long, whole, long}, Many: true}
	first := api.Made{
		Bodies: []api.Body{
			{Name: "main", Type: api.Type{Kind: api.TFn, Parts: []api.Type{whole}}, Regs: 9, Code: []api.Three{
				{Op: api.TConst, D: []int{1}, N: 1 << 20},
				{Op: api.TLoad, D: []int{2}, Name: "v", N: 1},
				{Op: api.TCall, D: []int{3, 4}, S: []int{0, 1, 2, 5, 1, 2}, Name: "f", Type: x},
				{Op: api.TPut, S: []int{4}},
				{Op: api.TPut, S: []int{3}},
				{Op: api.TLoad, D: []int{2}, Name: "v", N: 1},
				{Op: api.TReturn, S: []int{2}},
			}},
			{Name: "g", Static: true, Type: x, Regs: 3, Code: []api.Three{{Op: api.TReturn, S: []int{0, 1}}}},
		},
		Outsides: []api.Outside{{Name: "f", Type: x, Fun: true}, {Name: "v", Type: long}},
	}
	second := api.Made{
		Bodies: []api.Body{
			{Name: "g", Type: x, Regs: 4, Code: []api.Three{{Op: api.TCount, D: []int{3}}, {Op: api.TReturn, S: []int{2, 3}}}},
			{Name: "f", Type: x, Regs: 8, Code: []api.Three{
				{Op: api.TCount, D: []int{3}},
				{Op: api.TZero, S: []int{3}, N: 7},
				{Op: api.TConst, D: []int{4}, N: 2},
				{Op: api.TExtra, D: []int{5}, S: []int{4}},
				{Op: api.TStore, S: []int{5}, Name: "v", N: 1},
				{Op: api.TPut, S: []int{7}},
				{Op: api.TCall, D: []int{0, 1}, S: []int{1, 2, 3}, Name: "f", Type: x},
				{Op: api.TCall, D: []int{6, 7}, S: []int{0, 1, 2, 3, 3, 3, 3}, Name: "g", Type: x},
				{Op: api.TReturn, S: []int{6, 7}},
			}},
		},
		Globals: []api.Global{{Name: "w", Static: true, Type: whole, Value: 6}, {Name: "v", Type: long, Value: -1 << 40}},
	}
	for _, l := range [][]api.Made{{first, second}, {second, first}, {{}, second, {}, first}} {
		want, trouble := three.Run(l, 100)
		if trouble != (api.Trouble{}) || want.End != api.RunExit || len(want.Out) != 3 {
			t.Fatal(trouble, want)
		}
		got := runs(t, "orders", emitted(t, l), 1000, 400*want.Steps+400)
		if got.End != api.EndExit || got.Value != want.Value || !slices.Equal(got.Out, want.Out) {
			t.Errorf("%+v, not %+v", got, want)
		}
	}
}

// S1 of objects that emit makes: what three.Check tells of units in orders, Link tells of their objects.
func TestTroublesOfUnits(t *testing.T) {
	for _, c := range []struct {
		texts []string
		want  api.Trouble
	}{
		{[]string{"int f(){return 1;}"}, api.Trouble{Code: api.ErrName}},
		{[]string{"static int main(){return 1;}"}, api.Trouble{Code: api.ErrName}},
		{[]string{"int main=3;"}, api.Trouble{Code: api.ErrName}},
		{[]string{"long main(){return 1L;}"}, api.Trouble{Code: api.ErrKind}},
		{[]string{"int main(...){return 1;}"}, api.Trouble{Code: api.ErrKind}},
		{[]string{"int main(){return 1;}int f(){return 1;}", "int g=1;int f=1;"}, api.Trouble{Unit: 1, Code: api.ErrTwice, At: 1}},
		{[]string{"int main(){return 1;}", "extern int f();int g(){return f();}"}, api.Trouble{Unit: 1, Code: api.ErrName, At: 1}},
		{[]string{"static int f(){return 1;}int main(){return f();}", "int g=1;extern int f();"}, api.Trouble{Unit: 1, Code: api.ErrName, At: 1}},
		{[]string{"struct s{int a;}s f(){return s{1};}int main(){return 1;}", "struct s{int b;}extern s f();"}, api.Trouble{Unit: 1, Code: api.ErrKind}},
		{[]string{"extern long v;int main(){return 1;}", "int v=1;"}, api.Trouble{Unit: 0, Code: api.ErrKind, At: 1}},
		{[]string{"extern int v();int main(){return 1;}", "int v=1;"}, api.Trouble{Unit: 0, Code: api.ErrKind, At: 1}},
		{[]string{"extern int v;int main(){return v;}", "int v=1;"}, api.Trouble{}},
	} {
		l := madeOf(t, c.texts)
		tells(t, strings.Join(c.texts, " ; "), emitted(t, l), 1000, c.want)
		if code := three.Check(l).Code; code != c.want.Code {
			t.Error(c.texts, code)
		}
	}
}
