package drive_test

import (
	"fmt"
	"strings"
	"testing"

	"scarfjoint/api"
	"scarfjoint/emit"
	"scarfjoint/lower"
)

const main7 = "unit int main(){return 7;}"

// T2: the chapter's example.
func TestExample(t *testing.T) {
	talk(t, main7, "unit 0", "link 100", "linked 0", "run 99", "exit 7")
}

// great is the text of a unit that lower.Make makes in orders, of which emit.Make tells that they are too many.
func great(t *testing.T) string {
	t.Helper()
	text := "struct s{long a;long b;long c;long d;long e;long f;}extern int f(s a,s b,s c,s d,s e,s f);int g(s a){" + strings.Repeat("f(a,a,a,a,a,a);", 70) + "return 1;}"
	made, fault := lower.Make(text)
	if _, e := emit.Make(made); fault.Code != api.OK || e != api.ErrSize {
		t.Fatal(fault, e)
	}
	return text
}

// T2: texts that are wrong, with Code and At, and right ones.
func TestUnit(t *testing.T) {
	for text, want := range map[string]string{
		"":                                  "unit 0",
		" ":                                 "unit 0",
		"    ":                              "unit 0",
		"#":                                 "unit 0",
		"# unit int main(){return 7;}":      "unit 0",
		"int main(){return 7;}":             "unit 0",
		"  int main(){return 7;}":           "unit 0",
		"int main(){return 7;}   ":          "unit 0",
		"   int  main ( ) { return 7 ; }  ": "unit 0",
		"static int f(){return 1;}":         "unit 0",
		"extern int f();":                   "unit 0",
		"extern int v;long w=-3L;":          "unit 0",
		"struct s{int a;}":                  "unit 0",
		// Faults of the text: At is a byte.
		"x":                       "bad 2 1",
		" x":                      "bad 2 2",
		"x ":                      "bad 2 2",
		"@":                       "bad 2 0",
		"   @":                    "bad 2 3",
		"unit int main()":         "bad 2 5",
		"int x":                   "bad 2 5",
		"int x;":                  "bad 2 5",
		"int main(){return 7;":    "bad 2 20",
		"int main(){return 07;}":  "bad 2 18",
		"int f(){x;}":             "bad 2 9",
		"\tint main(){return 7;}": "bad 2 0",
		"int a=2147483648;":       "bad 6 6",
		"int abcdefghijklmnopq=1": "bad 1 4",
		// Faults of nodes: At is a node's number.
		"int f(){return 1L;}":              "bad 3 4",
		"int f(int x){int x=1;return x;}":  "bad 5 6",
		"int f(){return g;}":               "bad 4 5",
		"int f(){return f(1);}":            "bad 6 5",
		"int f(){put(1);}":                 "bad 2 3",
		"int f(){return count;}":           "bad 2 5",
		"int a=1;long b=2;":                "bad 3 4",
		"int a=1;int a=2;":                 "bad 5 4",
		"s a=1;":                           "bad 4 2",
		"struct s{int a;int a;}":           "bad 5 4",
		"struct s{int a;}struct s{int a;}": "bad 5 4",
	} {
		talk(t, "unit "+text, want)
		// The same one behind others, wrong and right ones.
		number := strings.Replace(want, "unit 0", "unit 2", 1)
		talk(t, "unit x", "bad 2 1", "unit int q=1;", "unit 0", "unit y", "bad 2 1", "unit int r=1;", "unit 1", "unit "+text, number)
	}
	deep := "int f(){return " + strings.Repeat("-", 12) + "1;}"
	talk(t, "unit "+deep, "bad 1 0")
	many := "int f(){" + strings.Repeat("put(1);", 350) + "return 1;}"
	talk(t, "unit "+many, "bad 1 0")
	talk(t, "unit "+great(t), "bad 1 0", main7, "unit 0")
}

// T2: a text of MaxText bytes, and longer ones.
func TestLongUnits(t *testing.T) {
	text := "int main(){return 7;}"
	for more, want := range map[int]string{-1: "unit 0", 0: "unit 0", 1: "bad 1 0", 2: "bad 1 0", 1000000: "bad 1 0"} {
		for _, with := range []string{" ", "#"} {
			long := text + strings.Repeat(with, api.MaxText+more-len(text))
			talk(t, "unit "+long, want)
			ahead := strings.Repeat(" ", api.MaxText+more-len(text)) + text
			talk(t, "unit "+ahead, want)
		}
	}
}

// T2: MaxUnits units, and one more, whose text may be right or wrong.
func TestManyUnits(t *testing.T) {
	if api.MaxUnits != 4 {
		t.Fatal(api.MaxUnits)
	}
	ahead := []string{main7, "unit 0", "unit static int a=1;", "unit 1", "unit ", "unit 2", "unit static long a=1L;", "unit 3"}
	for _, text := range []string{"", "int b=1;", "x", "@", "int main(){return 8;}", "int f(){return 1L;}", strings.Repeat(" ", 5000), great(t)} {
		talk(t, append(ahead, "unit "+text, "bad 1 0", "link 100", "linked 3", "run 99", "exit 7", "unit "+text, "bad 1 0")...)
	}
	for _, line := range []string{"unit", "Unit ", " unit ", "unit\t"} {
		talk(t, append(ahead, line, "?")...)
	}
}

// T2: wrong units take no number, and are in no program.
func TestNumbersOfUnits(t *testing.T) {
	t.Parallel()
	large := great(t)
	for n := range 81 {
		// Each of the first four is right, wrong by its text, or wrong by its size.
		script, want, right := "", "", 0
		for at := range 4 {
			switch n / []int{1, 3, 9, 27}[at] % 3 {
			case 0:
				script, want = script+fmt.Sprintf("unit int a%d=1;\n", at), want+fmt.Sprintln("unit", right)
				right++
			case 1:
				script, want = script+fmt.Sprintf("unit int a%d=1L;\n", at), want+"bad 3 1\n"
			case 2:
				script, want = script+"unit "+large+"\n", want+"bad 1 0\n"
			}
		}
		script += main7 + "\nlink 100\nmean 9\nrun 99"
		if right == 4 {
			want += "bad 1 0\nbad 0 4 0\nbad 0 4 0\nnone\n"
		} else {
			want += fmt.Sprintf("unit %d\nlinked %d\nexit 7\nexit 7\n", right, right)
		}
		if got := agrees(t, script); got != want {
			t.Errorf("%d: %s, not %s", n, short(got), short(want))
		}
	}
}
