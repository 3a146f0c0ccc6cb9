package drive

import (
	"strconv"
	"strings"

	"scarfjoint/api"
)

// longest is how many digits a script's number has at most: the greatest one is 999999.
const longest = 6

// number reads a script's number, and says whether the text is one.
func number(text string) (int, bool) {
	if len(text) > longest {
		return 0, false
	}
	n, e := strconv.Atoi(text)
	// A sign, or a 0 ahead of others, is not told again.
	if e != nil || n < 0 || strconv.Itoa(n) != text {
		return 0, false
	}
	return n, true
}

// told is a word with numbers behind it.
func told(word string, numbers ...int) string {
	var text strings.Builder
	text.WriteString(word)
	for _, n := range numbers {
		text.WriteByte(' ')
		text.WriteString(strconv.Itoa(n))
	}
	return text.String()
}

// troubled tells what is wrong with all units together.
func troubled(t api.Trouble) string {
	return told("bad", t.Unit, int(t.Code), t.At)
}

// ended tells how a run ended, and what it showed.
func ended(end int, value int32, out []int32) string {
	names := [...]string{
		api.EndFuel:    "fuel",
		api.EndExit:    "exit",
		api.EndDivided: "divided",
		api.EndFull:    "full",
		api.EndWrong:   "wrong",
	}
	var numbers []int
	if end == api.EndExit {
		numbers = append(numbers, int(value))
	}
	for _, w := range out {
		numbers = append(numbers, int(w))
	}
	return told(names[end], numbers...)
}
