package drive_test

import (
	"fmt"
	"slices"
	"strings"
	"testing"

	"scarfjoint/api"
	"scarfjoint/drive"
)

// T2: no image.
func TestNone(t *testing.T) {
	talk(t, "run 0", "none", "run 7", "none", "run 300000", "none", "run 300001", "none", "run 999999", "none")
	talk(t, main7, "unit 0", "run 9", "none", "mean 9", "exit 7", "run 9", "none", "link 5", "bad 0 1 1", "run 9", "none", "link 100", "linked 0", "run 99", "exit 7")
	talk(t, "link 100", "bad 0 1 0", "run 9", "none", "unit x", "bad 2 1", "run 9", "none")
}

// both holds that a program shows something, by its image and by its text.
func both(t *testing.T, text, want string) {
	t.Helper()
	talk(t, "unit "+text, "unit 0", "mean 2000", want, "link 16000", "linked 0", "run 300000", want, "run 300000", want, "mean 2000", want)
}

// T2: each end, with Value and Out.
func TestEnds(t *testing.T) {
	both(t, "int main(){return 0;}", "exit 0")
	both(t, "int main(){return -1;}", "exit -1")
	both(t, "int main(){put(7);return 0;}", "exit 0 7")
	both(t, "int main(){put(0);put(0L);return 3;}", "exit 3 0 0 0")
	both(t, "int main(){int x=1/0;return 3;}", "divided")
	both(t, "int main(){put(9);return 3%0;}", "divided 9")
	both(t, "int main(){put(-9);put(-9L);put(1/0);return 3;}", "divided -9 -9 -1")
	both(t, "int main(){while(1){}return 3;}", "fuel")
	both(t, "int main(){put(1);put(0);while(1){}return 3;}", "fuel 1 0")
	both(t, "int f(){return f();}int main(){put(4);return f();}", "fuel 4")
	// A stack that has no end is full.
	const deep = "int f(int n){put(n);return f(n+1)+1;}int main(){return f(0);}"
	answer := drive.Play("unit " + deep + "\nlink 100\nrun 300000")
	if last := strings.Split(answer, "\n")[2]; !strings.HasPrefix(last, "full 0 1 2") {
		t.Error(answer)
	}
	talk(t, "unit int f(int n){return f(n+1)+1;}int main(){return f(0);}", "unit 0", "link 100", "linked 0", "run 300000", "full", "link 16000", "linked 0", "run 300000", "full", "mean 2000", "fuel")
	talk(t, "unit int f(int n){return f(n+1)+1;}int main(){put(3);put(-4);return f(0);}", "unit 0", "link 100", "linked 0", "run 300000", "full 3 -4", "mean 2000", "fuel 3 -4")
}

// T2: very many numbers.
func TestLongOut(t *testing.T) {
	for _, n := range []int{1, 2, 100, 600, 20000} {
		var want []string
		for at := range n {
			want = append(want, fmt.Sprint(at-5))
		}
		text := fmt.Sprintf("int main(){int i=0;while(i<%d){put(i-5);i=i+1;}return i;}", n)
		answer := fmt.Sprintf("exit %d %s", n, strings.Join(want, " "))
		got := strings.Split(agrees(t, "unit "+text+"\nlink 100\nrun 300000\nmean 2000"), "\n")
		if got[2] != answer {
			t.Errorf("%d: %s", n, short(got[2]))
		}
		told := strings.Fields(got[3])
		if n <= 100 && got[3] != answer || n > 100 && (told[0] != "fuel" || !slices.Equal(told[1:], want[:len(told)-1])) {
			t.Errorf("%d: %s", n, short(got[3]))
		}
	}
}

// T2: the fuel is how many steps there are at most.
func TestFuel(t *testing.T) {
	const text = "unit int main(){put(1);put(2);put(3);return 4;}\nlink 100\n"
	// The model's steps are eight: four statements, and an expression in each.
	for n, want := range []string{"fuel", "fuel", "fuel 1", "fuel 1", "fuel 1 2", "fuel 1 2", "fuel 1 2 3", "fuel 1 2 3", "exit 4 1 2 3", "exit 4 1 2 3"} {
		answers(t, text+fmt.Sprint("mean ", n), "unit 0\nlinked 0\n"+want+"\n")
	}
	// The machine's are those that its instructions are, whatever these are.
	last, ends := "", 0
	for n := range 100 {
		got := strings.Split(agrees(t, text+fmt.Sprint("run ", n)), "\n")[2]
		if got == "exit 4 1 2 3" {
			ends++
		} else if ends > 0 || !strings.HasPrefix(got, "fuel") || !strings.HasPrefix(got, last) {
			t.Errorf("%d: %s behind %s", n, got, last)
		}
		last = got
	}
	if ends < 50 {
		t.Error(ends)
	}
}

// T2: more fuel than a run has.
func TestMuchFuel(t *testing.T) {
	if api.MaxFuel != 300000 || api.MaxSteps != 2000 {
		t.Fatal(api.MaxFuel, api.MaxSteps)
	}
	ahead := []string{main7, "unit 0", "link 100", "linked 0"}
	for n, want := range map[int]string{0: "fuel", 1: "fuel", 299999: "exit 7", 300000: "exit 7", 300001: "bad 6", 300002: "bad 6", 999999: "bad 6"} {
		talk(t, append(ahead, fmt.Sprint("run ", n), want, "run 99", "exit 7")...)
	}
	for n, want := range map[int]string{0: "fuel", 1: "fuel", 2: "exit 7", 1999: "exit 7", 2000: "exit 7", 2001: "bad 0 6 0", 2002: "bad 0 6 0", 300000: "bad 0 6 0", 999999: "bad 0 6 0"} {
		talk(t, append(ahead, fmt.Sprint("mean ", n), want, "mean 9", "exit 7")...)
		if n > api.MaxSteps {
			// Ahead of all that is wrong with the units.
			talk(t, fmt.Sprint("mean ", n), want)
			talk(t, "unit ", "unit 0", fmt.Sprint("mean ", n), want)
			talk(t, main7, "unit 0", main7, "unit 1", fmt.Sprint("mean ", n), want)
		}
	}
	// A run without an end, with as much fuel as there is, again and again.
	script := "unit int main(){while(1){put(1);}return 7;}\nlink 100\n" + strings.Repeat("run 300000\nmean 2000\n", 15)
	got := strings.Split(drive.Play(script), "\n")
	for at := 4; at < 32; at++ {
		if got[at] != got[at-2] || !strings.HasPrefix(got[at], "fuel 1 1 1") {
			t.Error(at, short(got[at]))
		}
	}
}

// T2: a run leaves nothing behind: neither in the image nor in the units.
func TestRunsAlone(t *testing.T) {
	talk(t, "unit int g=5;long h=-1L;int main(){g=g+1;h=h+h;put(g);put(h);return g;}", "unit 0", "link 100", "linked 3",
		"run 999", "exit 6 6 -2 -1", "run 999", "exit 6 6 -2 -1", "run 3", "fuel", "run 999", "exit 6 6 -2 -1",
		"mean 99", "exit 6 6 -2 -1", "mean 2", "fuel", "mean 99", "exit 6 6 -2 -1", "run 999", "exit 6 6 -2 -1", "link 100", "linked 3", "run 999", "exit 6 6 -2 -1")
}
