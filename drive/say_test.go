package drive_test

import (
	"fmt"
	"regexp"
	"slices"
	"strconv"
	"strings"
	"sync"
	"testing"

	"scarfjoint/api"
	"scarfjoint/drive"
	"scarfjoint/emit"
	"scarfjoint/link"
	"scarfjoint/lower"
	"scarfjoint/machine"
	"scarfjoint/model"
)

// What chapter 19 says is written here once more: nothing is kept from line to line, but each line asks anew what the lines ahead of it leave.

// asks is a line with a number.
var asks = regexp.MustCompile(`^(link|run|mean) (0|[1-9][0-9]{0,5})$`)

// asked takes such a line apart; "" is no such line's word.
func asked(line string) (string, int) {
	found := asks.FindStringSubmatch(line)
	if found == nil {
		return "", 0
	}
	n, _ := strconv.Atoi(found[2])
	return found[1], n
}

// lines are those of a script that count (T1).
func lines(script string) []string {
	l := strings.Split(script, "\n")
	if l[len(l)-1] == "" {
		l = l[:len(l)-1]
	}
	return l[:min(len(l), 40)]
}

// judged is what a text is as a unit: its object, or what is wrong.
type judged struct {
	api.Object
	wrong string
}

// known has what texts were asked for already: it hangs on nothing but the text.
var known sync.Map

// unitOf tells what a text is as a unit.
func unitOf(text string) (api.Object, string) {
	found, ok := known.Load(text)
	if !ok {
		o, wrong := judge(text)
		found = judged{o, wrong}
		known.Store(text, found)
	}
	return found.(judged).Object, found.(judged).wrong
}

func judge(text string) (api.Object, string) {
	made, fault := lower.Make(text)
	if fault.Code != api.OK {
		return api.Object{}, fmt.Sprintf("bad %d %d", fault.Code, fault.At)
	}
	o, e := emit.Make(made)
	if e != api.OK {
		return o, fmt.Sprintf("bad %d 0", e)
	}
	return o, ""
}

// units are the texts and the objects that lines leave.
func units(l []string) (texts []string, objects []api.Object) {
	for _, line := range l {
		text, is := strings.CutPrefix(line, "unit ")
		if o, wrong := unitOf(text); is && wrong == "" && len(texts) < api.MaxUnits {
			texts, objects = append(texts, text), append(objects, o)
		}
	}
	return texts, objects
}

// imageOf is the image that lines leave, if there is one.
func imageOf(l []string) (api.Image, bool) {
	for at, line := range slices.Backward(l) {
		word, n := asked(line)
		if word != "link" {
			continue
		}
		_, objects := units(l[:at])
		if image, _, trouble := link.Link(objects, n); trouble.Code == api.OK {
			return image, true
		}
	}
	return api.Image{}, false
}

// shows tells an end, and what a run showed.
func shows(end int, value int32, out []int32) string {
	text := []string{"fuel", "exit", "divided", "full", "wrong"}[end]
	if text == "exit" {
		text += fmt.Sprint(" ", value)
	}
	for _, w := range out {
		text += fmt.Sprint(" ", w)
	}
	return text
}

// sayLine is what a line is answered behind others (T2).
func sayLine(ahead []string, line string) string {
	texts, objects := units(ahead)
	if text, is := strings.CutPrefix(line, "unit "); is {
		if len(texts) == 4 {
			return "bad 1 0"
		}
		if _, wrong := unitOf(text); wrong != "" {
			return wrong
		}
		return fmt.Sprint("unit ", len(texts))
	}
	word, n := asked(line)
	switch word {
	case "link":
		image, _, t := link.Link(objects, n)
		if t.Code != api.OK {
			return fmt.Sprintf("bad %d %d %d", t.Unit, t.Code, t.At)
		}
		return fmt.Sprint("linked ", len(image.Data))
	case "run":
		image, is := imageOf(ahead)
		if !is {
			return "none"
		}
		s, e := machine.Run(image, n)
		if e != api.OK {
			return fmt.Sprintf("bad %d", e)
		}
		return shows(s.End, s.Value, s.Out)
	case "mean":
		s, t := model.Run(texts, n)
		if t.Code != api.OK {
			return fmt.Sprintf("bad %d %d %d", t.Unit, t.Code, t.At)
		}
		return shows(map[int]int{api.RunFuel: api.EndFuel, api.RunExit: api.EndExit, api.RunDivided: api.EndDivided}[s.End], s.Value, s.Out)
	}
	return "?"
}

// say is what a script is answered.
func say(script string) string {
	var l []string
	counted := lines(script)
	for at, line := range counted {
		l = append(l, sayLine(counted[:at], line)+"\n")
	}
	return strings.Join(l, "")
}

// form is what an answer's line may be: one blank between words, none at the end, numbers as P4 says.
var form = func() *regexp.Regexp {
	const n = `(0|-?[1-9][0-9]*)`
	return regexp.MustCompile(`^(\?|none|unit [0-3]|linked ` + n + `|bad( ` + n + `){1,3}|(fuel|divided|full)( ` + n + `)*|exit( ` + n + `)+)$`)
}()

// short is the beginning of what is long.
func short(text string) string {
	return fmt.Sprintf("%.300q", text)
}

// agrees holds that Play answers what the chapter says, each time, in its form, and gives that.
func agrees(t *testing.T, script string) string {
	t.Helper()
	want, got, again := say(script), drive.Play(script), drive.Play(script)
	if got != want {
		t.Fatalf("%s: %s, not %s", short(script), short(got), short(want))
	}
	if again != want {
		t.Fatalf("%s: at first %s, then %s", short(script), short(got), short(again))
	}
	all := strings.Split(got, "\n")
	last := len(all) - 1
	if all[last] != "" || last != len(lines(script)) {
		t.Errorf("%s: %d lines are answered: %s", short(script), last, short(got))
	}
	for _, line := range all[:last] {
		// Of a long line the beginning tells enough, up to a blank.
		if len(line) > 9000 {
			line = line[:strings.LastIndexByte(line[:9000], ' ')]
		}
		if !form.MatchString(line) {
			t.Errorf("%s: %s", short(script), short(line))
		}
	}
	return got
}

// begins holds that the answer to each beginning of a script is a beginning of an answer (T3).
func begins(t *testing.T, script, answer string) {
	t.Helper()
	for at := range len(script) {
		if script[at] != '\n' {
			continue
		}
		if beginning := drive.Play(script[:at+1]); !strings.HasPrefix(answer, beginning) {
			t.Errorf("%s: %s is no beginning of %s", short(script[:at+1]), short(beginning), short(answer))
		}
	}
}

// plays holds what lines are answered, each by its own.
func plays(t *testing.T, l []string, want ...string) {
	t.Helper()
	for _, end := range []string{"", "\n"} {
		if end == "" && l[len(l)-1] == "" {
			continue // behind the last byte 10 is nothing, which is no line
		}
		script := strings.Join(l, "\n") + end
		got := agrees(t, script)
		begins(t, script, got)
		answers := strings.Split(strings.TrimSuffix(got, "\n"), "\n")
		if len(answers) != len(want) {
			t.Fatalf("%s: %s", short(script), short(got))
		}
		for at := range want {
			if answers[at] != want[at] {
				t.Errorf("%s: line %d, %s: %s, not %s", short(script), at, short(l[at]), short(answers[at]), short(want[at]))
			}
		}
	}
}

// talk is a script told line by line: each line has its answer behind it.
func talk(t *testing.T, told ...string) {
	t.Helper()
	var l, want []string
	for at := 0; at < len(told); at += 2 {
		l, want = append(l, told[at]), append(want, told[at+1])
	}
	plays(t, l, want...)
}
