package lex_test

import (
	"slices"
	"strings"
	"testing"

	"scarfjoint/api"
	"scarfjoint/lex"
)

// signs are all of them, as the chapter has them.
var signs = strings.Fields("{ } ( ) ; , ... . = == < + - * / % & | ^ !")

func word(text string, at int) api.Token   { return api.Token{Kind: api.KWord, Text: text, At: at} }
func number(text string, at int) api.Token { return api.Token{Kind: api.KNumber, Text: text, At: at} }
func long(text string, at int) api.Token   { return api.Token{Kind: api.KLong, Text: text, At: at} }
func sign(text string, at int) api.Token   { return api.Token{Kind: api.KSign, Text: text, At: at} }

// checkTokens asks for these tokens, and no fault.
func checkTokens(t *testing.T, text string, want ...api.Token) {
	t.Helper()
	l, f := lex.Scan(text)
	if f != (api.Fault{}) || !slices.Equal(l, want) {
		t.Errorf("%.60q: %v %v, not %v", text, l, f, want)
	}
}

// checkFault asks for this fault, and no tokens.
func checkFault(t *testing.T, text string, code api.Errno, at int) {
	t.Helper()
	l, f := lex.Scan(text)
	if f != (api.Fault{Code: code, At: at}) || len(l) != 0 {
		t.Errorf("%.60q: %v %v, not code %d at %d", text, l, f, code, at)
	}
}

// E1, E2: the chapter's example.
func TestExample(t *testing.T) {
	checkTokens(t, "x=10L;#y", word("x", 0), sign("=", 1), long("10", 2), sign(";", 5))
}

// E1: texts without a token.
func TestNothing(t *testing.T) {
	for _, text := range []string{
		"", " ", "\n", "  ", "\n\n", " \n \n", strings.Repeat(" ", api.MaxText), strings.Repeat("\n", api.MaxText),
		"#", "##", "# ", "#\n", "#\n#", "#\n#\n", " #", "\n#", " # x # y", "#x\n #y\n#", "#1x\n# 00\n", "#\x00\t\r\x7f\x80\xff_@\"\n",
		"#" + strings.Repeat("x", api.MaxText-1),
	} {
		checkTokens(t, text)
	}
}

// E1: blanks and notes part tokens, and end where they end.
func TestBlanksAndNotes(t *testing.T) {
	for text, at := range map[string]int{
		" x": 1, "\nx": 1, "\n \n  x": 5, "#\nx": 2, "#y\nx": 3, "# y z\nx": 6, "#y#z\nx": 5, "#y\n#z\nx": 6, "#\n\n#\n x": 6, " #y\n x": 5,
	} {
		checkTokens(t, text, word("x", at))
	}
	checkTokens(t, "x ", word("x", 0))
	checkTokens(t, "x\n", word("x", 0))
	checkTokens(t, "x#", word("x", 0))
	checkTokens(t, "x#y z\n", word("x", 0))
	checkTokens(t, "x y", word("x", 0), word("y", 2))
	checkTokens(t, "x\ny", word("x", 0), word("y", 2))
	checkTokens(t, "x#z\ny", word("x", 0), word("y", 4))
	checkTokens(t, "x#\ny#", word("x", 0), word("y", 3))
	checkTokens(t, "1 2", number("1", 0), number("2", 2))
	checkTokens(t, "1#2\n3", number("1", 0), number("3", 4))
	checkTokens(t, "1L#2\n3L", long("1", 0), long("3", 5))
	checkTokens(t, "1#L", number("1", 0))
	checkTokens(t, "1 L", number("1", 0), word("L", 2))
	checkTokens(t, "= =", sign("=", 0), sign("=", 2))
	checkTokens(t, "=#\n=", sign("=", 0), sign("=", 3))
	checkTokens(t, ". . .", sign(".", 0), sign(".", 2), sign(".", 4))
	checkTokens(t, ".\n..", sign(".", 0), sign(".", 2), sign(".", 3))
}

// E1: words are as long as they can be; the words that the language keeps for itself are KWords, too.
func TestWords(t *testing.T) {
	for _, text := range []string{
		"a", "z", "A", "Z", "L", "l", "x1", "x_", "x_1", "x__", "aL", "a0L", "e9", "aZ_09", "int", "long", "break", "while", "INT",
		strings.Repeat("k", 16), strings.Repeat("Z", 16), "a" + strings.Repeat("0", 15), "a" + strings.Repeat("_", 15), "a234567890123456",
	} {
		checkTokens(t, text, word(text, 0))
		checkTokens(t, " "+text+"\n", word(text, 1))
		checkTokens(t, text+" "+text, word(text, 0), word(text, len(text)+1))
		checkTokens(t, text+"."+text, word(text, 0), sign(".", len(text)), word(text, len(text)+1))
	}
}

// E2: a word is of 16 bytes at most; the fault is at its first byte.
func TestWordsThatAreTooLong(t *testing.T) {
	for _, text := range []string{
		strings.Repeat("k", 17), "a" + strings.Repeat("0", 16), "a" + strings.Repeat("_", 16), "Z23456789_1234567", strings.Repeat("k", 18), strings.Repeat("k", 300),
	} {
		checkFault(t, text, api.ErrSize, 0)
		checkFault(t, " "+text+" ", api.ErrSize, 1)
		checkFault(t, "x="+text+";", api.ErrSize, 2)
		checkFault(t, "#\n"+text, api.ErrSize, 2)
	}
	checkFault(t, strings.Repeat("k", api.MaxText), api.ErrSize, 0)
	checkTokens(t, "#"+strings.Repeat("k", 17))
	checkTokens(t, strings.Repeat("k", 16)+" k", word(strings.Repeat("k", 16), 0), word("k", 17))
}

// E1: numbers and longs, up to the greatest.
func TestNumbers(t *testing.T) {
	for _, text := range []string{"0", "1", "9", "10", "19", "90", "100", "1234567890", "2147483646", "2147483647", "999999999", "1000000000"} {
		checkTokens(t, text, number(text, 0))
		checkTokens(t, "\n"+text+" ", number(text, 1))
		checkTokens(t, text+"L", long(text, 0))
		checkTokens(t, text+"L#", long(text, 0))
		checkTokens(t, text+";"+text+"L;", number(text, 0), sign(";", len(text)), long(text, len(text)+1), sign(";", 2*len(text)+2))
	}
	for _, text := range []string{"2147483648", "9999999999", "4294967296", "4294967295", "9223372036854775806", "9223372036854775807", "1000000000000000000", "999999999999999999"} {
		checkTokens(t, text+"L", long(text, 0))
		checkTokens(t, "-"+text+"L", sign("-", 0), long(text, 1))
		checkFault(t, text, api.ErrRange, 0)
	}
}

// E2: a row that is formed as it should and is too great.
func TestNumbersThatAreTooGreat(t *testing.T) {
	many := strings.Repeat("9", 3000)
	zeros := "1" + strings.Repeat("0", 3000)
	for _, text := range []string{"2147483648", "2147483650", "3000000000", "10000000000", "21474836470", "4294967296", "4294967297", "9223372036854775807", "9223372036854775808", "18446744073709551616", "18446744073709551617", many, zeros} {
		checkFault(t, text, api.ErrRange, 0)
		checkFault(t, " -"+text+";", api.ErrRange, 2)
	}
	for _, text := range []string{"9223372036854775808", "9223372036854775810", "9300000000000000000", "10000000000000000000", "92233720368547758070", "18446744073709551615", "18446744073709551616", "18446744073709551617", many, zeros} {
		checkFault(t, text+"L", api.ErrRange, 0)
		checkFault(t, "x="+text+"L ", api.ErrRange, 2)
	}
}

// E2: rows that begin with a digit and are formed otherwise, whatever they would be worth.
func TestRowsThatAreNone(t *testing.T) {
	for _, text := range []string{
		"00", "01", "09", "000", "007", "0123456789", "00L", "01L", "000L", "0x", "0x1", "0_", "1x", "1_", "1_0", "1e5", "1a", "1Z", "1l", "1LL", "1Lx", "1L_", "1L0", "1L1", "1L1L", "0LL", "0L0", "12_", "1_L", "1xL", "0b1", "9L9",
		"2147483648x", "2147483648_", "02147483648", "2147483648l", "9223372036854775808LL", "9223372036854775808Lx", "09223372036854775808L", "9223372036854775808l",
		strings.Repeat("9", 3000) + "x", strings.Repeat("9", 3000) + "LL", strings.Repeat("0", 3000), strings.Repeat("0", 3000) + "L", "1" + strings.Repeat("x", 40),
	} {
		checkFault(t, text, api.ErrForm, 0)
		checkFault(t, " "+text, api.ErrForm, 1)
		checkFault(t, "(\n"+text+")", api.ErrForm, 2)
		checkFault(t, "a#\n"+text+"#", api.ErrForm, 3)
	}
}
