package drive_test

import (
	"fmt"
	"slices"
	"strings"
	"testing"

	"scarfjoint/drive"
)

// answers holds a whole script.
func answers(t *testing.T, script, want string) {
	t.Helper()
	if got := agrees(t, script); got != want {
		t.Errorf("%s: %s, not %s", short(script), short(got), short(want))
	}
	begins(t, script, want)
}

// T1: what stands between the bytes 10, without what is behind the last one, if that is empty.
func TestLines(t *testing.T) {
	for script, want := range map[string]string{
		"":                      "",
		"\n":                    "?\n",
		"\n\n":                  "?\n?\n",
		"\n\n\n\n\n":            "?\n?\n?\n?\n?\n",
		"x":                     "?\n",
		"x\n":                   "?\n",
		"x\n\n":                 "?\n?\n",
		"\nx":                   "?\n?\n",
		"\nx\n":                 "?\n?\n",
		"run 1":                 "none\n",
		"run 1\n":               "none\n",
		"run 1\n\n":             "none\n?\n",
		"\nrun 1":               "?\nnone\n",
		"\n\nrun 1\n":           "?\n?\nnone\n",
		"run 1\nrun 2":          "none\nnone\n",
		"run 1\n\nrun 2\n":      "none\n?\nnone\n",
		"unit \nunit ":          "unit 0\nunit 1\n",
		"unit \nunit \n":        "unit 0\nunit 1\n",
		"unit \nunit \nunit":    "unit 0\nunit 1\n?\n",
		" ":                     "?\n",
		" \n ":                  "?\n?\n",
		"unit int\nmain(){}\n ": "bad 2 3\n?\n?\n",
	} {
		answers(t, script, want)
	}
}

// T1: the first 40 lines count, empty ones and ones without a meaning among them.
func TestFortyLines(t *testing.T) {
	for _, n := range []int{1, 38, 39, 40, 41, 42, 79, 80, 81, 400, 100000} {
		for _, line := range []string{"", "?", "run 7", "unit x"} {
			l := slices.Repeat([]string{line}, n)
			answer := map[string]string{"": "?\n", "?": "?\n", "run 7": "none\n", "unit x": "bad 2 1\n"}[line]
			want := strings.Repeat(answer, min(n, 40))
			script := strings.Join(l, "\n")
			if got := drive.Play(script + "\n"); got != want {
				t.Errorf("%d times %q, with an end: %d bytes", n, line, len(got))
			}
			if line == "" {
				// Behind the last byte 10 is nothing, which is no line.
				want = strings.Repeat(answer, min(n-1, 40))
			}
			if got := drive.Play(script); got != want {
				t.Errorf("%d times %q: %d bytes", n, line, len(got))
			}
		}
	}
}

// T1: a line at each place from the 36th to the 45th, behind empty ones and others.
func TestLastLines(t *testing.T) {
	for at := 36; at <= 45; at++ {
		for _, other := range []string{"", "?", "mean 0", "\r"} {
			answer := "?\n"
			if other == "mean 0" {
				answer = "bad 0 1 0\n"
			}
			for _, end := range []string{"", "\n", "\n\n", "\nrun 1", "\nrun 1\n"} {
				script := strings.Repeat(other+"\n", at-1) + "unit x" + end
				want := strings.Repeat(answer, at-1) + "bad 2 1\n"
				switch end {
				case "\n\n":
					want += "?\n"
				case "\nrun 1", "\nrun 1\n":
					want += "none\n"
				}
				if l := strings.SplitAfter(want, "\n"); len(l) > 41 {
					want = strings.Join(l[:40], "")
				}
				answers(t, script, want)
			}
		}
	}
	// A unit, an image and a run at the edge.
	for ahead := 34; ahead <= 40; ahead++ {
		l := strings.Repeat("\n", ahead) + "unit int main(){put(3);return 4;}\nlink 99\nrun 99\nmean 9\nrun 1"
		want := []string{"unit 0\n", "linked 0\n", "exit 4 3\n", "exit 4 3\n", "fuel\n"}
		answers(t, l, strings.Repeat("?\n", ahead)+strings.Join(want[:min(5, 40-ahead)], ""))
	}
}

// T1: no byte but 10 ends a line.
func TestBytes(t *testing.T) {
	right := []string{"unit int main(){return 7;}", "link 100", "run 99", "mean 9"}
	told := "unit 0\nlinked 0\nexit 7\nexit 7\n"
	for b := range 256 {
		if b == '\n' {
			continue
		}
		one := string([]byte{byte(b)})
		answers(t, one, "?\n")
		answers(t, one+one+one, "?\n")
		answers(t, one+"\n"+one, "?\n?\n")
		if one != " " {
			answers(t, "unit int main(){return 7;}"+one+"link 100", answerOf("int main(){return 7;}"+one+"link 100"))
		}
		for at, line := range right {
			ahead := strings.Join(right[:at], "\n") + strings.Repeat("\n", min(at, 1))
			heard := strings.Join(strings.SplitAfter(told, "\n")[:at], "")
			answers(t, ahead+one+line, heard+"?\n")
			answers(t, ahead+line+one+"\n", heard+behindLine(line, one)+"\n")
		}
		answers(t, "unit "+one, answerOf(one))
		answers(t, "unit #"+one, answerOf("#"+one))
		answers(t, "unit int main(){return 7;}#"+one, "unit 0\n")
		for _, word := range []string{"link", "run", "mean", "unit", "xyz"} {
			if one != " " {
				answers(t, word+one+"7", "?\n")
				answers(t, word+one+" 7", "?\n")
			}
		}
	}
	answers(t, "unit int main(){return 7;}\r\nlink 100\r\nrun 99\r\n", "bad 2 21\n?\n?\n")
	answers(t, "run 1\u2028run 1\u0085run 1\vrun 1\frun 1", "?\n")
	answers(t, "\xff\xfe\nrun 1\n\x00\nrun 1\x00\n\u00a0\nrun\u00a01", "?\nnone\n?\n?\n?\n?\n")
}

// answerOf is what the first unit of a text is answered.
func answerOf(text string) string {
	if _, wrong := unitOf(text); wrong != "" {
		return wrong + "\n"
	}
	return "unit 0\n"
}

// behindLine is what one of the four lines is answered, with a byte behind it.
func behindLine(line, one string) string {
	switch {
	case strings.HasPrefix(line, "unit"):
		return strings.TrimSuffix(answerOf(line[len("unit "):]+one), "\n")
	case one < "0" || one > "9":
		return "?"
	case line == "link 100":
		return "linked 0"
	}
	return "exit 7"
}

// T1: numbers in answers, 0, below 0, and the least and the greatest that a word has.
func TestNumbersInAnswers(t *testing.T) {
	for text, n := range map[string]int{
		"0": 0, "1": 1, "-1": -1, "-0": 0, "7": 7, "-7": -7, "10": 10, "-10": -10, "65536": 65536, "1000000": 1000000,
		"2147483647": 2147483647, "-2147483647": -2147483647, "-2147483647-1": -2147483648,
	} {
		answer := fmt.Sprint("exit ", n)
		talk(t, "unit int main(){return "+text+";}", "unit 0", "link 100", "linked 0", "run 999", answer, "mean 999", answer)
		answer = fmt.Sprintf("exit %d %d %d 0 %d", n, n, n, n)
		talk(t, "unit int main(){int n="+text+";put(n);put(n);put(0);put(n);return n;}", "unit 0", "link 100", "linked 0", "run 999", answer, "mean 999", answer)
		for word, ended := range map[string]string{"divided": "put(1/0);", "fuel": "while(1){}"} {
			answer = fmt.Sprintf("%s %d %d", word, n, n)
			talk(t, "unit int main(){int n="+text+";put(n);put(n);"+ended+"return n;}", "unit 0", "link 100", "linked 0", "run 999", answer, "mean 999", answer)
		}
	}
	// Longs are two words.
	answer := "exit 0 0 -2147483648 -1 2147483647 -1 -1 0 1"
	talk(t, "unit int main(){put(-9223372036854775807L-1L);put(9223372036854775807L);put(-1L);put(4294967296L);return 0;}", "unit 0", "link 200", "linked 0", "run 999", answer, "mean 999", answer)
}
