package lex_test

import (
	"strings"
	"testing"

	"scarfjoint/api"
	"scarfjoint/lex"
)

// E1: each sign alone, and right beside words, numbers and longs.
func TestSigns(t *testing.T) {
	if len(signs) != 20 {
		t.Fatal(signs)
	}
	for _, s := range signs {
		n := len(s)
		checkTokens(t, s, sign(s, 0))
		checkTokens(t, " "+s+"\n", sign(s, 1))
		checkTokens(t, s+"#"+s, sign(s, 0))
		checkTokens(t, "x"+s+"y", word("x", 0), sign(s, 1), word("y", n+1))
		checkTokens(t, "1"+s+"2", number("1", 0), sign(s, 1), number("2", n+1))
		checkTokens(t, "1L"+s+"2L", long("1", 0), sign(s, 2), long("2", n+2))
		checkTokens(t, s+"L", sign(s, 0), word("L", n))
		checkTokens(t, s+"0", sign(s, 0), number("0", n))
	}
}

// E1: signs side by side, each as long as it can be.
func TestSignsSideBySide(t *testing.T) {
	for text, want := range map[string]string{
		"==": "==", "===": "== =", "====": "== ==", "=====": "== == =",
		".": ".", "..": ". .", "...": "...", "....": "... .", ".....": "... . .", "......": "... ...", ".......": "... ... .",
		"<=": "< =", "=<": "= <", "<==": "< ==", "!=": "! =", "!==": "! ==", "=!": "= !", "+=": "+ =", "=-": "= -", "==-": "== -", "--": "- -", "++": "+ +",
		"<<": "< <", "&&": "& &", "||": "| |", "^^": "^ ^", "**": "* *", "//": "/ /", "/*": "/ *", "%%": "% %", "!!": "! !", "()": "( )", "){": ") {", "}}": "} }", "};": "} ;", ";;": "; ;", ",...)": ", ... )", "(...)": "( ... )", ".=": ". =", "=.": "= .", "=...": "= ...", "..=": ". . =", "...=": "... =", "..=.": ". . = .",
	} {
		var l []api.Token
		at := 0
		for _, s := range strings.Fields(want) {
			l = append(l, sign(s, at))
			at += len(s)
		}
		checkTokens(t, text, l...)
	}
	for _, a := range "{}();,<+-*/%&|^!" {
		for _, b := range signs {
			checkTokens(t, string(a)+b, sign(string(a), 0), sign(b, 1))
			checkTokens(t, b+string(a), sign(b, 0), sign(string(a), len(b)))
		}
	}
}

// kindOf tells which token a byte alone is, if any.
func kindOf(b byte) int {
	switch {
	case strings.IndexByte("abcdefghijklmnopqrstuvwxyzABCDEFGHIJKLMNOPQRSTUVWXYZ", b) >= 0:
		return api.KWord
	case strings.IndexByte("0123456789", b) >= 0:
		return api.KNumber
	case strings.IndexByte("{}();,.=<+-*/%&|^!", b) >= 0:
		return api.KSign
	}
	return 0
}

// E1, E2: each byte alone, ahead of a word, behind one, and between two.
func TestEachByte(t *testing.T) {
	for n := range 256 {
		b := string([]byte{byte(n)})
		switch kind := kindOf(byte(n)); {
		case n == ' ' || n == '\n':
			checkTokens(t, b)
			checkTokens(t, b+"x", word("x", 1))
			checkTokens(t, "x"+b, word("x", 0))
			checkTokens(t, "x"+b+"y", word("x", 0), word("y", 2))
		case n == '#':
			checkTokens(t, "x"+b+"y", word("x", 0))
		case kind == api.KSign:
			checkTokens(t, b+"x", sign(b, 0), word("x", 1))
			checkTokens(t, "x"+b, word("x", 0), sign(b, 1))
			checkTokens(t, "x"+b+"y", word("x", 0), sign(b, 1), word("y", 2))
		case kind == api.KWord:
			checkTokens(t, b, word(b, 0))
			checkTokens(t, b+"x", word(b+"x", 0))
			checkTokens(t, "x"+b, word("x"+b, 0))
			checkTokens(t, "x"+b+"y", word("x"+b+"y", 0))
		case kind == api.KNumber:
			checkTokens(t, b, number(b, 0))
			checkFault(t, b+"x", api.ErrForm, 0)
			checkTokens(t, "x"+b, word("x"+b, 0))
			checkTokens(t, "x"+b+"y", word("x"+b+"y", 0))
		case n == '_':
			checkFault(t, b, api.ErrForm, 0)
			checkFault(t, b+"x", api.ErrForm, 0)
			checkTokens(t, "x"+b, word("x_", 0))
			checkTokens(t, "x"+b+"y", word("x_y", 0))
			checkFault(t, "x "+b, api.ErrForm, 2)
			checkFault(t, "="+b, api.ErrForm, 1)
		default:
			checkStranger(t, b)
		}
	}
}

// checkStranger asks of a byte that stands in no token: it is a fault wherever it stands, but in a note.
func checkStranger(t *testing.T, b string) {
	t.Helper()
	checkFault(t, b, api.ErrForm, 0)
	checkFault(t, b+"x", api.ErrForm, 0)
	checkFault(t, "x"+b, api.ErrForm, 1)
	checkFault(t, "x"+b+"y", api.ErrForm, 1)
	checkFault(t, "12"+b, api.ErrForm, 2)
	checkFault(t, "1L"+b+"x", api.ErrForm, 2)
	checkFault(t, "..."+b, api.ErrForm, 3)
	checkFault(t, ".."+b+".", api.ErrForm, 2)
	checkFault(t, "="+b+"=", api.ErrForm, 1)
	checkFault(t, " \n"+b, api.ErrForm, 2)
	checkFault(t, "#\n"+b, api.ErrForm, 2)
	checkTokens(t, "#"+b+"\nx", word("x", 3))
	checkFault(t, strings.Repeat(" ", api.MaxText-1)+b, api.ErrForm, api.MaxText-1)
}

// E1: signs that other languages have, and bytes that are no single letter's.
func TestWhatIsNoToken(t *testing.T) {
	for text, at := range map[string]int{
		"->": 1, ">": 0, "a>b": 1, "a>=b": 1, "[0]": 0, "a[0]": 1, "a:b": 1, "~a": 0, "a?b": 1, "\"a\"": 0, "'a'": 0, "`a`": 0, "a@": 1, "$a": 0, "a\\": 1,
		"\u00e4": 0, "x\u00e4": 1, "x \u4e16": 2, "\ufeffx": 0, "x\u00a0y": 1, "x\u2028y": 1, "x\ty": 1, "x\r\ny": 1, "x\vy": 1, "x\fy": 1, "x\x00": 1,
	} {
		checkFault(t, text, api.ErrForm, at)
	}
}

// E2: a text of MaxText bytes is gone through, one more is ErrSize at 0, whatever stands in it.
func TestLongTexts(t *testing.T) {
	l, f := lex.Scan(strings.Repeat("x ", api.MaxText/2))
	if f != (api.Fault{}) || len(l) != api.MaxText/2 || l[len(l)-1] != word("x", api.MaxText-2) {
		t.Error(len(l), f)
	}
	l, f = lex.Scan(strings.Repeat(";", api.MaxText))
	if f != (api.Fault{}) || len(l) != api.MaxText || l[len(l)-1] != sign(";", api.MaxText-1) {
		t.Error(len(l), f)
	}
	blank := strings.Repeat(" ", api.MaxText-1)
	checkTokens(t, blank+"x", word("x", api.MaxText-1))
	checkTokens(t, "x"+blank, word("x", 0))
	for _, piece := range []string{" ", "\n", "#", "x", "x ", "1", "0", "@", "_", ";", "=", ".", "\xff"} {
		checkFault(t, strings.Repeat(piece, api.MaxText+1)[:api.MaxText+1], api.ErrSize, 0)
		checkFault(t, strings.Repeat(piece, 1<<20), api.ErrSize, 0)
	}
	checkFault(t, "@"+blank+" ", api.ErrSize, 0)
	checkFault(t, blank+"  ", api.ErrSize, 0)
}

// E2: of two faults the first from the left is told.
func TestTwoFaults(t *testing.T) {
	faults := []struct {
		text string
		code api.Errno
	}{
		{"@", api.ErrForm}, {"_", api.ErrForm}, {"\t", api.ErrForm}, {"00", api.ErrForm}, {"1x", api.ErrForm}, {"2147483648x", api.ErrForm},
		{"2147483648", api.ErrRange}, {"9223372036854775808L", api.ErrRange}, {strings.Repeat("9", 99), api.ErrRange},
		{strings.Repeat("k", 17), api.ErrSize}, {"a" + strings.Repeat("0", 99), api.ErrSize},
	}
	for _, a := range faults {
		for _, b := range faults {
			checkFault(t, a.text+" "+b.text, a.code, 0)
			checkFault(t, "x = "+a.text+"#\n"+b.text, a.code, 4)
			checkFault(t, a.text+"("+b.text, a.code, 0)
			checkFault(t, "#"+a.text+"\n;"+b.text, b.code, len(a.text)+3)
		}
	}
	// Side by side a word or a row swallows what might be a fault of its own.
	checkFault(t, strings.Repeat("k", 17)+"_", api.ErrSize, 0)
	checkFault(t, strings.Repeat("k", 17)+"@", api.ErrSize, 0)
	checkFault(t, "2147483648@", api.ErrRange, 0)
	checkFault(t, "2147483648_", api.ErrForm, 0)
	checkFault(t, "00@", api.ErrForm, 0)
	checkFault(t, "@00", api.ErrForm, 0)
}
