package drive_test

import (
	"fmt"
	"testing"

	"scarfjoint/api"
)

// T2: each trouble that a script reaches, with its Unit, Code and At: of an object At is a symbol's number, of a text a node's.
func TestTroubles(t *testing.T) {
	talk(t, "link 100", "bad 0 1 0", "mean 9", "bad 0 1 0")
	talk(t, "link 0", "bad 0 1 0", "link 999999", "bad 0 1 0", "mean 0", "bad 0 1 0")
	talk(t, "unit x", "bad 2 1", "link 100", "bad 0 1 0", "mean 9", "bad 0 1 0")
	for _, c := range []struct {
		units      []string
		link, mean string
	}{
		{[]string{""}, "bad 0 4 0", "bad 0 4 0"},
		{[]string{"", "", "", ""}, "bad 0 4 0", "bad 0 4 0"},
		{[]string{"int f(){return 1;}"}, "bad 0 4 0", "bad 0 4 0"},
		{[]string{"static int main(){return 1;}"}, "bad 0 4 0", "bad 0 4 0"},
		{[]string{"int main=3;"}, "bad 0 4 0", "bad 0 4 0"},
		{[]string{"int f(){return 1;}", "int g(){return 1;}"}, "bad 0 4 0", "bad 0 4 0"},
		{[]string{"int f(){return 1;}", "long main(){return 1L;}"}, "bad 0 3 0", "bad 0 3 0"},
		{[]string{"int main(...){return 1;}"}, "bad 0 3 0", "bad 0 3 0"},
		{[]string{"int main(int a){return 1;}"}, "bad 0 3 0", "bad 0 3 0"},
		{[]string{"int main(){return 1;}", "int main(){return 2;}"}, "bad 1 5 0", "bad 1 5 1"},
		{[]string{"int main(){return 1;}int f(){return 1;}", "", "int g=1;int h=3;int f=1;"}, "bad 2 5 2", "bad 2 5 7"},
		{[]string{"int v=1;", "int main(){return 1;}", "static int v=2;", "int g=1;long v=3L;"}, "bad 3 5 1", "bad 3 5 4"},
		{[]string{"extern int f();int main(){return f();}"}, "bad 0 4 1", "bad 0 4 1"},
		{[]string{"int main(){return 1;}", "int a=1;extern int f();extern int v;int g(){return f();}", "int v=1;"}, "bad 1 4 2", "bad 1 4 4"},
		{[]string{"int main(){return 1;}static int f(){return 1;}", "int a=1;extern int v;extern int f();", "int v=1;"}, "bad 1 4 2", "bad 1 4 6"},
		{[]string{"extern long v;int main(){return 1;}", "int v=1;"}, "bad 0 3 1", "bad 0 3 1"},
		{[]string{"extern int v();int main(){return 1;}", "int v=1;"}, "bad 0 3 1", "bad 0 3 1"},
		{[]string{"extern int v;int main(){return 1;}", "int v(){return 1;}"}, "bad 0 3 1", "bad 0 3 1"},
		{[]string{"struct s{int a;}s f(){return s{1};}int main(){return 1;}", "struct s{int b;}int x=1;extern s f();"}, "bad 1 3 1", "bad 1 3 7"},
		{[]string{"struct s{int a;}s f(){return s{1};}int main(){return 1;}", "struct s{int a;}int x=1;extern s f();"}, "linked 1", "exit 1"},
	} {
		var told []string
		for at, text := range c.units {
			told = append(told, "unit "+text, fmt.Sprint("unit ", at))
		}
		talk(t, append(told, "link 100", c.link, "mean 9", c.mean)...)
	}
}

// lengths tells how many words the Code of units has in all, and how many their Data has.
func lengths(t *testing.T, texts ...string) (int, int) {
	t.Helper()
	instructions, variables := 0, 0
	for _, text := range texts {
		o, wrong := unitOf(text)
		if wrong != "" {
			t.Fatal(text, wrong)
		}
		instructions, variables = instructions+len(o.Code), variables+len(o.Data)
	}
	return instructions, variables
}

// T2: how much memory there is, at the edges.
func TestMemory(t *testing.T) {
	for _, texts := range [][]string{
		{"int main(){return 7;}"},
		{"int main(){return 7;}int a=1;long b=2L;int c=3;"},
		{"long b=2L;static long c=3L;", "int main(){put(1);put(2);put(3);put(4);put(5);put(6);put(7);return 7;}", "static long b=1L;static int c=7;"},
	} {
		instructions, variables := lengths(t, texts...)
		least := max(32, 2+instructions+variables+16)
		var told []string
		for at, text := range texts {
			told = append(told, "unit "+text, fmt.Sprint("unit ", at))
		}
		linked := fmt.Sprint("linked ", variables)
		for _, n := range []int{0, 1, 31, least - 1, api.MaxMemory + 1, 65536, 999999} {
			talk(t, append(told, fmt.Sprint("link ", n), "bad 0 1 1", "run 1", "none")...)
		}
		for _, n := range []int{least, least + 1, 100, 15999, api.MaxMemory} {
			talk(t, append(told, fmt.Sprint("link ", n), linked, "run 0", "fuel")...)
		}
		talk(t, append(told, fmt.Sprint("link ", least), linked, fmt.Sprint("link ", least-1), "bad 0 1 1", "run 0", "fuel")...)
	}
}

// T2: how many words there are of Data.
func TestLinked(t *testing.T) {
	talk(t, "unit int main(){return 7;}", "unit 0", "link 200", "linked 0",
		"unit int a=1;", "unit 1", "link 200", "linked 1",
		"unit long b=1L;static int c=3;static long d=0L;", "unit 2", "link 200", "linked 6",
		"unit extern long b;extern int a;static int c=7;", "unit 3", "link 200", "linked 7",
		"unit int x=1;", "bad 1 0", "link 200", "linked 7", "link 200", "linked 7", "run 99", "exit 7")
}

// deepens is a unit with 100 calls in one another, each with something left to do behind it.
const deepens = "unit int f(int n){if(n){return f(n-1)+1;}return 0;}int main(){put(5);return f(100);}"

// T2: an image stays till there is another one in its place; a trouble leaves it as it was.
func TestImages(t *testing.T) {
	talk(t, deepens, "unit 0", "run 9", "none",
		"link 16000", "linked 0", "run 9999", "exit 100 5",
		"link 100", "linked 0", "run 9999", "full 5", "mean 2000", "exit 100 5",
		"link 101", "linked 0", "run 9999", "full 5",
		"link 31", "bad 0 1 1", "run 9999", "full 5",
		"link 16000", "linked 0", "run 9999", "exit 100 5", "link 16001", "bad 0 1 1", "run 9999", "exit 100 5", "link x", "?", "link 07", "?", "run 9999", "exit 100 5")
	// A unit that comes behind the image is not in it: neither what is right of it nor what is wrong.
	talk(t, main7, "unit 0", "link 100", "linked 0",
		"unit int v=1;", "unit 1", "run 99", "exit 7", "mean 9", "exit 7",
		"unit int main(){return 8;}", "unit 2", "run 99", "exit 7", "mean 9", "bad 2 5 1",
		"link 100", "bad 2 5 0", "run 99", "exit 7", "unit extern int none;", "unit 3", "link 100", "bad 2 5 0", "run 99", "exit 7", "mean 9", "bad 2 5 1")
	// A program that is whole only when the last unit is there.
	talk(t, "unit extern int f(int a);int main(){put(f(3));return f(4);}", "unit 0", "link 100", "bad 0 4 1", "run 99", "none", "mean 99", "bad 0 4 1",
		"unit int x", "bad 2 5", "link 100", "bad 0 4 1",
		"unit extern int g;int f(int a){g=g+a;return g;}", "unit 1", "link 100", "bad 1 4 1", "run 99", "none", "mean 99", "bad 1 4 1",
		"unit int g=10;", "unit 2", "run 999", "none", "mean 99", "exit 17 13", "link 100", "linked 1", "run 999", "exit 17 13", "run 999", "exit 17 13", "mean 99", "exit 17 13")
	// No room any more for what came since: the image that was there stays.
	instructions, _ := lengths(t, "int main(){return 7;}")
	memory := max(32, 2+instructions+16)
	talk(t, main7, "unit 0", fmt.Sprint("link ", memory), "linked 0",
		"unit int f(){put(1);put(2);put(3);put(4);put(5);put(6);put(7);put(8);return 9;}", "unit 1", fmt.Sprint("link ", memory), "bad 0 1 1", "run 99", "exit 7",
		"link 100", "linked 0", "run 99", "exit 7")
	// More instructions than an image has.
	much := "struct s{long a;long b;long c;long d;long e;long f;}int h%d(s a,s b,s c){return 1;}static int f(s a){"
	for range 40 {
		much += "h%[1]d(a,a,a);"
	}
	much += "return 1;}"
	var told []string
	for at := range 3 {
		told = append(told, "unit "+fmt.Sprintf(much, at), fmt.Sprint("unit ", at))
	}
	talk(t, append(told, main7, "unit 3", "link 16000", "bad 0 1 1", "run 9", "none", "mean 9", "exit 7")...)
}
