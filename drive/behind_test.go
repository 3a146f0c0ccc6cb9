package drive_test

import (
	"fmt"
	"strings"
	"sync"
	"testing"

	"scarfjoint/drive"
)

// scripts have lines of every sort.
func scripts(t *testing.T) []string {
	t.Helper()
	l := []string{
		"", "\n", "\n\n\n", "?\n", "run 1\n",
		main7 + "\nlink 100\nrun 99\nmean 9\n",
		main7 + "\n\nlink 5\nlink 100\nrun 99\n\nlink 5\nrun 3\nmean 9\n\n",
		"unit x\nunit int g=1;\nunit extern int g;int main(){put(g);return 7/(g-1);}\nlink 100\nrun 99\nmean 99\nmean 5\nmean 2001\nrun 300001\n",
		deepens + "\nlink 16000\nrun 99999\nlink 100\nrun 99999\nmean 2000\nlink 5\nrun 99999\n",
		strings.Repeat("unit \n", 6) + "link 100\nmean 1\nrun 1\n",
		"unit " + great(t) + "\n" + main7 + "\nlink 100\nrun 99\n",
	}
	for _, n := range []int{35, 36, 37, 38, 39, 40, 41} {
		l = append(l, strings.Repeat("mean 9\n", n)+main7+"\nlink 100\nrun 99\n")
	}
	return l
}

// T3: what is answered to a script stays, whatever stands behind it, also behind the line 40.
func TestBehind(t *testing.T) {
	all := scripts(t)
	for _, script := range all {
		answer := agrees(t, script)
		begins(t, script, answer)
		for _, other := range append(all, "x", "link 100", "unit int main(){return 8;}", main7+"\nlink 5", "run 7\nrun 8", "\x00\n\xff", strings.Repeat("\n", 100000), strings.Repeat("x", 100000)) {
			more := agrees(t, script+other)
			if !strings.HasPrefix(more, answer) {
				t.Errorf("%s: %s; with %s behind: %s", short(script), short(answer), short(other), short(more))
			}
			if counted := strings.Count(script, "\n"); counted >= 40 && more != answer {
				t.Errorf("%s behind %d lines: %s", short(other), counted, short(more))
			}
		}
	}
}

// T3: a script cut at each of its bytes 10, up to the line 40 and beyond it: of each of its lines one more is answered.
func TestCuts(t *testing.T) {
	l := []string{"unit int n=3;", "link 100", "unit extern int n;int main(){put(n);n=n*2;return n;}", "link 100", "run 99", "", "mean 9", "run 999", "link 7", "run 2", "unit y", "unit "}
	var script []string
	for at := range 50 {
		script = append(script, l[at%len(l)])
	}
	ahead := ""
	for n := 1; n <= len(script); n++ {
		beginning := strings.Join(script[:n], "\n") + "\n"
		answer := agrees(t, beginning)
		if behind, ok := strings.CutPrefix(answer, ahead); !ok || strings.Count(behind, "\n") != min(1, max(0, 41-n)) {
			t.Errorf("%d lines: %s behind %s", n, short(answer), short(ahead))
		}
		ahead = answer
	}
}

// P3: nothing is kept from call to call: whatever scripts are between, and whatever others are played at once.
func TestAlone(t *testing.T) {
	all := scripts(t)
	var want []string
	for _, script := range all {
		want = append(want, drive.Play(script))
	}
	for at, script := range all {
		for other, between := range all {
			if got := drive.Play(between); got != want[other] {
				t.Errorf("%s: %s, not %s", short(between), short(got), short(want[other]))
			}
			if got := drive.Play(script); got != want[at] {
				t.Errorf("%s behind %s: %s, not %s", short(script), short(between), short(got), short(want[at]))
			}
		}
	}
	var group sync.WaitGroup
	for n := range 8 {
		group.Go(func() {
			for turn := range 20 {
				at := (n*5 + turn) % len(all)
				if got := drive.Play(all[at]); got != want[at] {
					t.Errorf("%s: %s, not %s", short(all[at]), short(got), short(want[at]))
				}
			}
		})
	}
	group.Wait()
}

// P1: scripts of many bytes, in one line and in many.
func TestLongScripts(t *testing.T) {
	const many = 3000000
	for what, want := range map[string]string{
		strings.Repeat("\n", many):                            strings.Repeat("?\n", 40),
		strings.Repeat("x", many):                             "?\n",
		"unit " + strings.Repeat(" ", many):                   "bad 1 0\n",
		"unit " + strings.Repeat("(", many):                   "bad 1 0\n",
		"link " + strings.Repeat("9", many):                   "?\n",
		"run " + strings.Repeat("0", many):                    "?\n",
		"mean " + strings.Repeat(" ", many):                   "?\n",
		strings.Repeat("unit ", many/5):                       "bad 1 0\n",
		strings.Repeat("run 1\n", many/6):                     strings.Repeat("none\n", 40),
		main7 + "\n" + strings.Repeat("link 9 ", many/7):      "unit 0\n?\n",
		strings.Repeat(strings.Repeat(" ", many/40)+"\n", 50): strings.Repeat("?\n", 40),
	} {
		if got := drive.Play(what); got != want {
			t.Errorf("%s: %s", short(what), short(got))
		}
	}
	// Very long answers, line by line.
	script := fmt.Sprintf("unit int main(){int n=-2147483647;while(1){%s}return 0;}\nlink 16000\n", strings.Repeat("put(n);", 300)) + strings.Repeat("run 300000\n", 12)
	got := strings.Split(drive.Play(script), "\n")
	for at := 2; at < 14; at++ {
		if got[at] != got[2] || len(got[at]) < 3000000 || !strings.HasPrefix(got[at], "fuel -2147483647 -2147483647") {
			t.Error(at, len(got[at]), short(got[at]))
		}
	}
}
