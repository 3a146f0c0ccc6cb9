package emit_test

import (
	"slices"
	"testing"

	"scarfjoint/abi"
	"scarfjoint/api"
	"scarfjoint/tail"
)

// laidKinds are types of parameters that are not copied.
func laidKinds() []api.Type {
	return []api.Type{whole, long, ints(2), ints(3), even, ints(4), function(whole)}
}

// turned is a function that counts a global variable down: while that is not 0, it calls another one at the tail, with its parameters' words turned by one; then it tells them. By a name, or of a word.
func turned(name, next string, t api.Type, byWord bool) api.Body {
	params, result := words(t)
	n, minus, word := params+result, params+result+1, params+result+2
	d := from(params, result)
	s := append(from(1, max(params-1, 0)), make([]int, min(params, 1))...)
	b := body(name, t, params+result+3, load(n, "left", 0), zero(n, 7), constant(minus, -1), operation(n, api.OpAdd, n, minus), store("left", 0, n))
	if byWord {
		b.Code = append(b.Code, address(word, next), callr(d, t, append(row(word), s...)...), back(d...))
		b.Code[1].N = 8
	} else {
		b.Code = append(b.Code, call(d, next, t, s...), back(d...))
	}
	b.Code = append(b.Code, puts(from(0, params)...)...)
	for at, register := range d {
		b.Code = append(b.Code, constant(register, 800+at))
	}
	b.Code = append(b.Code, back(d...))
	return b
}

// turning is a program that calls turned functions, which go on with one another as often as is said.
func turning(left int, names []string, types []api.Type, byWord bool) api.Made {
	m := api.Made{Globals: []api.Global{{Name: "left", Type: whole, Value: int64(left)}}}
	params, result := words(types[0])
	main := body("main", function(whole), params+result+1, constants(0, params, 100)...)
	main.Code = append(append(main.Code, call(from(params, result), names[0], types[0], from(0, params)...)), puts(from(0, params+result)...)...)
	main.Code = append(main.Code, back(params))
	m.Bodies = append(m.Bodies, main)
	for at, name := range names {
		b := turned(name, names[(at+1)%len(names)], types[at], byWord)
		if l, _ := tail.Of(b); len(l) != 1 {
			panic("not at the tail: " + text(made(b)))
		}
		m.Bodies = append(m.Bodies, b)
	}
	return m
}

// turns holds that what is called at the tail gets its words and comes back well, after some turns, and that it has room enough for all turns that the fuel lets it make where there is room for main and one of the others.
func turns(t *testing.T, names []string, types []api.Type, fuel int) {
	t.Helper()
	for _, byWord := range []bool{false, true} {
		for _, left := range []int{0, 1, 2, 3, 7, 40} {
			m := turning(left, names, types, byWord)
			if w := means(t, []api.Made{m}); w.End != api.EndExit || w.Value != 800 || w.lastOnes != left {
				t.Fatalf("%s\n%s, %d at the tail", text(m), told(w.Stop), w.lastOnes)
			}
		}
		m := turning(1<<30, names, types, byWord)
		all := objects(t, []api.Made{m})
		image, ranges, _ := linked(t, all, api.MaxMemory)
		low, room, most := len(image.Code)+len(image.Data), ranges[0].Frame, 0
		for _, r := range ranges[1:] {
			most = max(most, r.Frame)
		}
		image.Memory = max(low+max(room+most, 16), 32)
		w := watch(t, image, ranges, fuel)
		if w.End != api.EndFuel || w.lastOnes < fuel/120 || w.lowest < image.Memory-room-most || w.deepest != 2 {
			t.Fatalf("%s\n%s, %d at the tail", text(m), told(w.Stop), w.lastOnes)
		}
	}
}

// Q4: functions that call themselves at the tail as often as there is fuel, with parameters of every number and size.
func TestLastCalls(t *testing.T) {
	t.Parallel()
	for _, result := range []api.Type{whole, long, ints(2), structure(long), function(whole)} {
		turns(t, []string{"f"}, []api.Type{function(result)}, api.MaxFuel)
		for _, a := range laidKinds() {
			turns(t, []string{"f"}, []api.Type{function(result, a)}, 20000)
			turns(t, []string{"f"}, []api.Type{function(result, some(api.MaxParams, a)...)}, 60000)
		}
	}
	for _, a := range laidKinds() {
		for n := range api.MaxParams + 1 {
			turns(t, []string{"f"}, []api.Type{function(whole, some(n, a)...)}, 20000)
		}
		for _, b := range laidKinds() {
			turns(t, []string{"f"}, []api.Type{function(long, a, b)}, 20000)
			for _, c := range laidKinds() {
				turns(t, []string{"f"}, []api.Type{function(whole, a, b, c)}, 5000)
			}
		}
	}
	turns(t, []string{"f"}, []api.Type{function(whole, some(6, whole)...)}, api.MaxFuel)
	turns(t, []string{"f"}, []api.Type{function(long, long, even, whole, ints(3), long, ints(4))}, api.MaxFuel)
}

// Q4: two functions, and three, that call each other at the tail, of one type and of one stack area.
func TestLastCallsOfOneAnother(t *testing.T) {
	t.Parallel()
	for _, a := range laidKinds() {
		for n := range api.MaxParams + 1 {
			x := function(whole, some(n, a)...)
			turns(t, []string{"f", "g"}, []api.Type{x, x}, 5000)
			turns(t, []string{"f", "g", "h"}, []api.Type{x, x, x}, 5000)
		}
	}
}

// Q4: calls at the tail of functions of other types, with stack areas no greater than the own one, by functions that have words of every sort.
func TestLastCallsOfOthers(t *testing.T) {
	t.Parallel()
	var owns, others []api.Type
	for _, a := range append(kinds(), whole) {
		for n := range 5 {
			owns = append(owns, function(long, some(n, a)...), many(function(long, some(n, a)...)))
		}
	}
	for _, a := range laidKinds() {
		for n := range 6 {
			others = append(others, function(long, some(n, a)...))
		}
	}
	seen := 0
	for _, own := range owns {
		for _, other := range others {
			seen += handsOn(t, own, other)
		}
		if t.Failed() {
			return
		}
	}
	if seen < 1000 {
		t.Error("rarely at the tail:", seen)
	}
}

// handsOn holds a call at the tail of a function of a type in one of another type, if it can be one, and tells how many were held.
func handsOn(t *testing.T, own, other api.Type) int {
	t.Helper()
	a, _ := abi.Places(own, nil)
	if b, _ := abi.Places(other, nil); b.Area > a.Area {
		return 0
	}
	params, result := words(own)
	given, _ := words(other)
	// The last of the own words first, and 0 where there are not enough.
	var s []int
	for at := range given {
		s = append(s, max(params-1-at, 0))
	}
	d := from(params, result)
	g := teller("g", other)
	f := body("f", own, params+result+1, call(d, "g", other, s...), back(d...))
	beyond := 0
	if own.Many {
		beyond = 3
	}
	m := asks(own, beyond, false)
	if l, _ := tail.Of(f); !slices.Equal(l, row(0)) {
		t.Fatal("not at the tail:", text(made(f)))
	}
	if w := means(t, []api.Made{made(m, f, g)}); w.End != api.EndExit || w.lastOnes != 1 {
		t.Errorf("%s\n%s, %d at the tail", text(made(m, f, g)), told(w.Stop), w.lastOnes)
	}
	return 1
}

// Q4: a call at the tail and the return behind it, to which other orders lead.
func TestReturnsBehindLastCalls(t *testing.T) {
	x := function(whole, whole)
	g := body("g", x, 1, put(0), back(0))
	f := body("f", x, 4, zero(0, 4), constant(1, 5), jump(5), put(0), jump(6), call(row(1), "g", x, 0), back(1))
	for n, out := range map[int][]int32{0: nil, 3: {3}} {
		m := mainOf(constant(0, n), call(row(2), "f", x, 0), put(2), back(2))
		exits(t, []api.Body{m, f, g}, int32(n), append(out, int32(n))...)
	}
	// main itself calls at the tail.
	y := function(whole, whole, whole)
	exits(t, []api.Body{mainOf(constant(0, 4), constant(1, 6), call(row(2), "h", y, 1, 0), back(2)), body("h", y, 2, put(0), put(1), operation(0, api.OpSub, 0, 1), back(0))}, 2, 6, 4)
}

// Q4: texts: a function that calls itself at the tail, however often, is never the cause of EndFull.
func TestLastCallsOfTexts(t *testing.T) {
	const ahead = "struct two{int a;int b;}struct four{int a;long b;}"
	for _, text := range []string{
		"int f(int n){if(n){return f(n-1);}return 7;}int main(){return f(2147483647);}",
		"int f(int a,int b){if(a){return f(b,a);}return 7;}int main(){return f(1,2);}",
		"long f(long n,long m){if(n==m){return n;}return f(n+1L,m);}int main(){put(f(0L,-5L));return 1;}",
		"two f(two x){if(x.a){return f(two{x.b,x.a});}return x;}int main(){return f(two{1,2}).a;}",
		"int f(four x,int n,four y){if(n){return f(y,n,x);}return n;}int main(){return f(four{1,2L},3,four{4,5L});}",
		"int odd(int n){if(n){return 1;}return 0;}int f(fn(int)int q,int n){if(q(n)){return f(q,n-1);}return 0;}int main(){return f(&odd,2147483647);}",
		"int main(){return main();}",
	} {
		all := objects(t, madeOf(t, []string{ahead + text}))
		image, ranges, _ := linked(t, all, api.MaxMemory)
		low, frames := len(image.Code)+len(image.Data), 0
		for _, r := range ranges {
			frames += r.Frame
		}
		image.Memory = max(low+max(frames, 16), 32)
		if w := watch(t, image, ranges, api.MaxFuel); w.End != api.EndFuel || w.lastOnes < 1000 {
			t.Errorf("%q: %s, %d at the tail", text, told(w.Stop), w.lastOnes)
		}
	}
	w := watchText(t, "int f(int n,int m){if(n){return f(n-1,m+n);}return m;}int main(){put(f(10000,0));return 7;}")
	if w.End != api.EndExit || !slices.Equal(w.Out, []int32{50005000}) || w.deepest != 2 {
		t.Error(told(w.Stop), w.deepest)
	}
}

// watchText runs a text's image in much memory, with all fuel.
func watchText(t *testing.T, text string) *watched {
	t.Helper()
	image, ranges, _ := linked(t, objects(t, madeOf(t, []string{text})), api.MaxMemory)
	return watch(t, image, ranges, api.MaxFuel)
}
