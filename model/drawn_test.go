package model_test

import (
	"slices"
	"strings"
	"testing"

	"scarfjoint/api"
	"scarfjoint/check"
	"scarfjoint/lex"
	"scarfjoint/model"
)

// met counts the kinds of a node and all below it.
func met(n api.Node, kinds map[int]int) {
	kinds[n.Kind]++
	for _, kid := range n.Kids {
		met(kid, kinds)
	}
}

// H3 to H5: drawn programs show what the chapter written once more shows, with fuel enough and with less.
func TestDrawnPrograms(t *testing.T) {
	d := drawer(0x2545f4914f6cdd1d)
	ends, kinds, units, long := map[int]int{}, map[int]int{}, map[int]int{}, 0
	for range 1500 {
		texts, ok := d.program()
		if !ok {
			continue
		}
		if trouble := model.Check(texts); trouble != (api.Trouble{}) {
			if trouble.Code != api.ErrSize { // a text is too long, or too deep
				t.Fatalf("%q: %v", texts, trouble)
			}
			continue
		}
		want := reference(texts, api.MaxSteps)
		shows(t, texts, api.MaxSteps, want)
		for range 3 {
			fuel := d.below(min(want.Steps+2, api.MaxSteps))
			shows(t, texts, fuel, reference(texts, fuel))
		}
		if t.Failed() {
			return
		}
		ends[want.End]++
		units[len(texts)]++
		long += count(want.Steps > 60 && want.End == api.RunExit)
		for _, text := range texts {
			n, _ := check.Check(text)
			met(n, kinds)
		}
	}
	for end := api.RunFuel; end <= api.RunDivided; end++ {
		if ends[end] < 60 {
			t.Error("rarely drawn", ends)
		}
	}
	for kind := api.NUnit; kind <= api.NExtra; kind++ {
		if kinds[kind] < 200 {
			t.Error("rarely drawn", kind, kinds[kind])
		}
	}
	if long < 100 || len(units) != api.MaxUnits {
		t.Error("rarely drawn", long, units)
	}
}

// spoilt is a drawn program in which something between its units is changed.
func (d *drawer) spoilt() []string {
	texts, _ := d.program()
	for range 1 + d.below(3) {
		at, from := d.below(len(texts)), d.below(len(texts))
		switch d.below(7) {
		case 0:
			texts[at], texts[from] = texts[from], texts[at]
		case 1:
			texts[at] = ""
		case 2:
			texts[at] = texts[from]
		case 3:
			texts = append(texts, oneOf(d, texts))
		default:
			texts[at] = d.other(texts[at])
		}
	}
	return texts
}

// other is a text with a token of its declarations changed, or left out, or one more.
func (d *drawer) other(text string) string {
	l, _ := lex.Scan(text)
	if len(l) == 0 {
		return text
	}
	words := []string{}
	for _, token := range l {
		if token.Kind == api.KLong {
			token.Text += "L"
		}
		words = append(words, token.Text)
	}
	for i := range words {
		switch {
		case words[i] == "static" && d.below(3) == 0:
			words[i] = ""
		case words[i] == "extern" && d.below(8) == 0 && i+1 < len(words):
			words[i+1] = oneOf(d, []string{"int", "long"})
		case words[i] == "main" && d.below(6) == 0:
			words[i] = oneOf(d, names)
		case words[i] == "extern" && d.below(8) == 0 && i+2 < len(words):
			words[i+2] = oneOf(d, names)
		}
	}
	return strings.Join(words, " ")
}

// H1: drawn programs that were changed have the trouble that the chapter written once more has; all sorts come up.
func TestDrawnTroubles(t *testing.T) {
	d := drawer(0x9e3779b97f4a7c15)
	sorts := map[api.Errno]int{}
	for range 3000 {
		texts := d.spoilt()
		kept := slices.Clone(texts)
		want := wrong(texts)
		troubles(t, texts, want)
		if t.Failed() || !slices.Equal(texts, kept) {
			t.Fatalf("%q", texts)
		}
		sorts[want.Code]++
	}
	for _, code := range []api.Errno{api.OK, api.ErrSize, api.ErrKind, api.ErrName, api.ErrTwice} {
		if sorts[code] < 30 {
			t.Error("rarely met", code, sorts)
		}
	}
}
