package check_test

import (
	"slices"
	"strings"
	"testing"
	"unsafe"

	"scarfjoint/api"
	"scarfjoint/check"
)

// P1: texts that are as large as a text can be, and texts of any bytes, end with an answer.
func TestLargeTexts(t *testing.T) {
	mayAll(t, []string{
		"int f(){" + strings.Repeat("put(1);", 340) + "return 1;}",
		"int f(int a){return a" + strings.Repeat("+a", 9) + ";}",
		strings.Repeat("# a note\n", 400),
	})
	for _, text := range []string{"\x00", "\xff\xfe", "int f(){return \xc3\xa9;}", strings.Repeat("\x00", 1<<20), strings.Repeat("int f(){", 1<<18)} {
		if n, f := check.Check(text); f.Code == api.OK || !isZero(n) {
			t.Errorf("%.60q: %v", text, f)
		}
	}
	for _, part := range []string{"x f();", "extern int a;", "x(", "-", "{", "int f(int a){return ", "if(1){", "struct s{", "fn(", "s{", "."} {
		for _, n := range []int{1, 2, 3, 20, api.MaxText / len(part)} {
			agrees(t, strings.Repeat(part, n))
		}
	}
}

// P3: what comes out is new memory, and hangs on the text alone.
func TestNewMemory(t *testing.T) {
	text := strings.Clone(in("k();v=k();v.a=i+g;o n=o{s{1,2L},3};"))
	a, f := check.Check(text)
	b, g := check.Check(text)
	if f != g || !same(a, b) {
		t.Error(f, g)
	}
	seen := map[*api.Node]int{}
	from := uintptr(unsafe.Pointer(unsafe.StringData(text)))
	for _, n := range slices.Concat(all(a), all(b)) {
		for at := range n.Kids[:cap(n.Kids)] {
			seen[&n.Kids[:cap(n.Kids)][at]]++
		}
		first := uintptr(unsafe.Pointer(unsafe.StringData(n.Text)))
		if n.Text != "" && from <= first && first < from+uintptr(len(text)) {
			t.Errorf("%q is shared with what was handed in", n.Text)
		}
	}
	for at, times := range seen {
		if times > 1 {
			t.Errorf("%v is in two lists", at.Kind)
		}
	}
	l, _ := check.Types(text)
	m, _ := check.Types(text)
	if !slices.Equal(l, m) || &l[0] == &m[0] {
		t.Error(l, m)
	}
}

// lists counts the fields' names and the parts of a type, by where they stand.
func lists(t api.Type, seen map[unsafe.Pointer]int) {
	for at := range t.Names {
		seen[unsafe.Pointer(&t.Names[at])]++
	}
	for at, part := range t.Parts {
		seen[unsafe.Pointer(&t.Parts[at])]++
		lists(part, seen)
	}
}

// P3: no two types of declarations share memory, though one may be a part of many.
func TestTypesAreNewMemory(t *testing.T) {
	const text = "struct s{int a;long b;}struct o{s a;s b;}extern o f(o a,s b);o g(o a,s b){return f(a,a.a);}int h(fn(s)s q){return 1;}"
	seen := map[unsafe.Pointer]int{}
	for range 2 {
		_, l, _ := check.Unit(text)
		if len(l) != 5 {
			t.Fatal(l)
		}
		for _, d := range l {
			lists(d, seen)
		}
	}
	for _, times := range seen {
		if times > 1 {
			t.Fatal("a list is shared")
		}
	}
}
