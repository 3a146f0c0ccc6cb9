package emit_test

import (
	"testing"

	"scarfjoint/api"
	"scarfjoint/three"
)

// Q3: a function that uses all registers, called by one that has something in all that are to be kept: by a name and of a word, at some depth.
func TestKept(t *testing.T) {
	x := function(whole, whole)
	user, out, _ := busy(40)
	user.Name, user.Type = "f", x
	// The parameter is none of what is told: the first order gives its register another word.
	for _, others := range crowds {
		for _, called := range []api.Three{call(row(0), "f", x, 1), callr(row(0), x, 2, 1)} {
			m := amid(others, constant(1, 5), address(2, "f"), called, put(0), put(1))
			l := append(append([]int32{}, out...), out[39], 5)
			exits(t, []api.Body{m, user}, out[39], amidOut(others, l...)...)
		}
		between := amid(others, call(row(1), "f", x, 0), call(row(2), "f", x, 1), operation(0, api.OpSub, 1, 2))
		between.Name, between.Type = "g", x
		l := append(append([]int32{}, out...), out...)
		exits(t, []api.Body{mainOf(append(append(constants(1, 12, 60), call(row(0), "g", x, 1)), append(puts(from(0, 13)...), back(12))...)...), user, between}, 71, append(append(amidOut(others, l...), 0), numbers(60, 12)...)...)
	}
}

// Q3: at each memory from the least one on, up to where there is room for all: no store is below 13, and 13 is no lower than the frames say; the run ends by EndFull just where there is no room.
func TestEachMemory(t *testing.T) {
	for _, texts := range [][]string{
		{"int f(int n){if(n){return f(n-1)+n;}return 0;}int main(){put(f(20));return f(3);}"},
		{"struct s{long a;long b;long c;}s f(s x,int n){put(n);if(n){s y=f(s{x.b,x.c,x.a},n-1);return s{y.a,x.b,y.c};}return x;}int main(){put(f(s{1L,2L,3L},4).b);return 0;}"},
		{"extern int odd(int n);int even(int n){put(n);if(n){return odd(n-1);}return 1;}int main(){put(even(30));return 0;}", "extern int even(int n);int odd(int n){if(n){return even(n-1);}return 0;}"},
		{"int f(int a,int b,int c,int d,int e,int g){put(e);if(a){return f(a-1,c,d,e,g,b);}return b;}int h(int n,...){if(n){return h(n-1,count,1L,extra(0))+1;}return f(9,1,2,3,4,5);}int main(){return h(4,7);}"},
		{"int g=3;int main(){put(g);g=g-1;if(g){main();}put(1/g);return 0;}"},
	} {
		l := madeOf(t, texts)
		want, _ := three.Run(l, api.MaxFuel)
		all := objects(t, l)
		w := holds(t, l, all, api.MaxMemory, want, bound(want.Steps))
		need := api.MaxMemory - w.lowest + w.low
		full := 0
		for memory := w.low + 16; memory < max(need, w.low+16)+4; memory++ {
			less := holds(t, l, all, memory, want, bound(want.Steps))
			if less == nil || (less.End == api.EndFull) != (memory < need) {
				t.Fatalf("%q: memory %d of %d", texts, memory, need)
			}
			if less.End == api.EndFull {
				full++
			}
		}
		if full < 3 && len(texts) == 1 && want.End == api.RunExit {
			t.Errorf("%q: rarely full: %d", texts, full)
		}
	}
}
