package drive_test

import (
	"fmt"
	"strings"
	"testing"

	"scarfjoint/api"
	"scarfjoint/drive"
)

// drawer draws numbers: the same ones each time.
type drawer uint64

func (d *drawer) below(n int) int {
	*d ^= *d << 13
	*d ^= *d >> 7
	*d ^= *d << 17
	return int(uint64(*d) >> 11 % uint64(n))
}

// oneOf draws one of a list.
func oneOf[T any](d *drawer, l []T) T {
	return l[d.below(len(l))]
}

// texts are of units that fit one another, or not.
var texts = []string{
	"int main(){return 7;}",
	"int main(){put(1);return 2;}",
	"extern int f(int a);int main(){put(f(3));return f(4);}",
	"extern int f(int a);extern int g;int main(){g=g+f(g);put(g);return 100/g;}",
	"extern long h;int main(){while(h<9L){put(h);h=h+1L;}return int(h);}",
	"int f(int a){return a*a;}",
	"int f(int a){if(a){return f(a-1)+1;}return 0;}",
	"extern int g;int f(int a){g=g-a;put(g);return g;}",
	"static int g=5;int f(int a){g=g+a;return g;}",
	"long f(int a){return 1L;}",
	"int g=3;",
	"int g=-3;long h=7L;",
	"static int g=1;",
	"long h=-1L;",
	"int h=2;",
	"static int main(){return 1;}",
	"long main(){return 1L;}",
	"int main(){while(1){put(3);}return 1;}",
	"int main(){return main()+1;}",
	"int main(){put(8);return main();}",
	"int main(){put(-1);return 1%0;}",
	"", "#", "x", "int main(){return 7;} @", "int main(){return 7L;}", "int g=1;int g=2;",
}

// number draws one, as it is written, or a row of bytes that is none.
func (d *drawer) number() string {
	return oneOf(d, []string{
		"0", "1", "9", fmt.Sprint(d.below(60)), fmt.Sprint(d.below(2100)), "31", "32", "64", "100", "100", "100", "2000", "2001", "16000", "16001", "299999", "300000", "300001", "999999",
		"1000000", "", "07", "-1", "+1", " 7", "7 ", "x", "7x", "99999999999999999999",
	})
}

// line draws one.
func (d *drawer) line() string {
	switch d.below(16) {
	case 0, 1, 2, 3:
		return "unit " + oneOf(d, texts)
	case 4, 5, 6:
		return "link " + d.number()
	case 7, 8, 9:
		return "run " + d.number()
	case 10, 11, 12:
		return "mean " + d.number()
	case 13:
		return oneOf(d, []string{"link 100", "link 16000"})
	case 14:
		return oneOf(d, []string{"run 9999", "mean 999"})
	}
	return oneOf(d, []string{"", "?", "unit", "run", "Run 7", " run 7", "link  7", "mean\t7", "stop 7"})
}

// wholes are programs' units.
var wholes = [][]string{{}, {texts[0]}, {texts[2], texts[5]}, {texts[6], texts[2]}, {texts[3], texts[8], texts[10]}, {texts[11], texts[4]}, {texts[18]}, {texts[20], texts[10]}}

// script draws one of up to some 50 lines; it may begin with all units of a program.
func (d *drawer) script() string {
	var l []string
	for _, text := range oneOf(d, wholes) {
		l = append(l, "unit "+text)
	}
	for range d.below(1 + d.below(50)) {
		l = append(l, d.line())
	}
	return strings.Join(l, "\n") + strings.Repeat("\n", d.below(3))
}

// T1 to T3: drawn scripts.
func TestDrawnScripts(t *testing.T) {
	t.Parallel()
	d := drawer(0x2545f4914f6cdd1d)
	met := map[string]int{}
	for turn := range 2500 {
		script := d.script()
		answer := agrees(t, script)
		if turn%20 == 0 {
			begins(t, script, answer)
		}
		for _, line := range strings.Split(strings.TrimSuffix(answer, "\n"), "\n") {
			l := strings.Fields(line)
			if len(l) > 0 && l[0] == "bad" {
				met[strings.Join(l[:min(3, len(l))], " ")]++
			} else if len(l) > 0 {
				met[l[0]]++
			}
		}
		if t.Failed() {
			return
		}
	}
	for _, word := range []string{"unit", "linked", "exit", "fuel", "divided", "full", "none", "?", "bad 6", "bad 1 0", "bad 2 1", "bad 3 4", "bad 0 1", "bad 0 3", "bad 0 4", "bad 0 6", "bad 1 5", "bad 2 5", "bad 3 5", "bad 1 4"} {
		if met[word] < 10 {
			t.Error("rarely drawn:", word, met)
		}
	}
}

// P1, T1: drawn bytes, and scripts of which bytes were changed.
func TestDrawnBytes(t *testing.T) {
	t.Parallel()
	d := drawer(0x9e3779b97f4a7c15)
	for turn := range 5000 {
		var script []byte
		if turn%4 > 0 {
			for range d.below(60) {
				script = append(script, byte(d.below(256)))
			}
		} else {
			script = []byte(d.script())
		}
		for range d.below(6) {
			at := d.below(len(script) + 1)
			switch d.below(3) {
			case 0:
				script = append(script[:at:at], append([]byte{oneOf(&d, []byte("\n\n \x00\r0179unitlk"))}, script[at:]...)...)
			case 1:
				script = append(script[:at:at], script[min(at+1, len(script)):]...)
			case 2:
				script = append(script[:at:at], script[min(at+d.below(9), len(script)):]...)
			}
		}
		agrees(t, string(script))
		if t.Failed() {
			return
		}
	}
}

// What is true of the whole: drawn scripts in which an image is run that was just made of all units, with more fuel than there is need of: it shows what their texts mean, or is full.
func TestImagesMean(t *testing.T) {
	t.Parallel()
	d := drawer(0x853c49e6748fea9b)
	same := 0
	for range 3000 {
		script := ""
		for range 1 + d.below(5) {
			script += "unit " + oneOf(&d, texts) + "\n"
		}
		script += fmt.Sprintf("link %d\nmean %d\nrun %d", oneOf(&d, []int{100, 200, 16000}), api.MaxSteps, api.MaxFuel)
		l := strings.Split(drive.Play(script), "\n")
		linked, mean, run := l[len(l)-4], l[len(l)-3], l[len(l)-2]
		switch {
		case strings.HasPrefix(linked, "bad 0 1 1"):
		case strings.HasPrefix(linked, "bad"):
			// The same trouble, but for its place.
			if got, want := strings.Fields(linked)[:3], strings.Fields(mean); len(want) != 4 || got[1] != want[1] || got[2] != want[2] {
				t.Errorf("%s: %s, but %s", short(script), linked, mean)
			}
		case strings.HasPrefix(mean, "fuel"):
		default:
			same++
			if run != mean && !strings.HasPrefix(run, "full") {
				t.Errorf("%s: %s, not %s", short(script), run, mean)
			}
		}
	}
	if same < 300 {
		t.Error(same)
	}
}
