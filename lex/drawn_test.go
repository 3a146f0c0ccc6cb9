package lex_test

import (
	"math/big"
	"regexp"
	"slices"
	"strings"
	"testing"

	"scarfjoint/api"
	"scarfjoint/lex"
)

// The chapter once more, by expressions: what one of these matches at a place is what stands there.
var (
	between = regexp.MustCompile(`^(?:[ \n]|#[^\n]*)+`)
	row     = regexp.MustCompile(`^[a-zA-Z0-9_]+`)
	whole   = regexp.MustCompile(`^(0|[1-9][0-9]*)(L?)$`)
	aSign   = regexp.MustCompile(`^(?:\.\.\.|==|[{}();,.=<+\-*/%&|^!])`)
)

// again scans a text by these expressions.
func again(text string) ([]api.Token, api.Fault) {
	if len(text) > 4000 {
		return nil, api.Fault{Code: api.ErrSize}
	}
	var l []api.Token
	for at := 0; ; {
		at += len(between.FindString(text[at:]))
		if at == len(text) {
			return l, api.Fault{}
		}
		token, bytes, code := one(text[at:])
		if code != api.OK {
			return nil, api.Fault{Code: code, At: at}
		}
		token.At = at
		l = append(l, token)
		at += bytes
	}
}

// one tells of the token that a text begins with, and how many bytes it has.
func one(text string) (api.Token, int, api.Errno) {
	if s := aSign.FindString(text); s != "" {
		return sign(s, 0), len(s), api.OK
	}
	r := row.FindString(text)
	if r == "" || r[0] == '_' {
		return api.Token{}, 0, api.ErrForm
	}
	if r[0] > '9' {
		if len(r) > 16 {
			return api.Token{}, 0, api.ErrSize
		}
		return word(r, 0), len(r), api.OK
	}
	m := whole.FindStringSubmatch(r)
	if m == nil {
		return api.Token{}, 0, api.ErrForm
	}
	n, _ := new(big.Int).SetString(m[1], 10)
	if n.BitLen() > 31+32*len(m[2]) {
		return api.Token{}, 0, api.ErrRange
	}
	return api.Token{Kind: api.KNumber + len(m[2]), Text: m[1]}, len(r), api.OK
}

// drawer draws numbers: the same ones each time.
type drawer uint64

func (d *drawer) below(n int) int {
	*d ^= *d << 13
	*d ^= *d >> 7
	*d ^= *d << 17
	return int(uint64(*d) >> 11 % uint64(n))
}

// piece draws a part of a text, that rarely is a fault.
func (d *drawer) piece() string {
	switch d.below(12) {
	case 0, 1, 2:
		return []string{" ", "\n", "  ", " \n", "#\n", "# 1x @\n"}[d.below(6)]
	case 3, 4, 5, 6:
		return signs[d.below(len(signs))]
	case 7, 8:
		return []string{"x", "L", "int", "a_1", "Zz", strings.Repeat("q", 15), strings.Repeat("q", 16)}[d.below(7)]
	case 9:
		return []string{"0", "1", "7", "42", "2147483647", "214748364"}[d.below(6)]
	case 10:
		return []string{"0L", "1L", "9223372036854775807L", "922337203685477580L", "2147483648L"}[d.below(5)]
	}
	switch d.below(8) {
	case 0:
		return string([]byte{byte(d.below(256))})
	case 1:
		return []string{"2147483648", "9223372036854775808L", "9223372036854775807"}[d.below(3)]
	case 2:
		return []string{"00", "01L", "1x", "1LL", "_", "#"}[d.below(6)]
	}
	return " "
}

// E1, E2: drawn texts against the chapter once more; all ways to end are met.
func TestDrawnTexts(t *testing.T) {
	d := drawer(0x2545f4914f6cdd1d)
	met := map[api.Errno]int{}
	for range 60000 {
		var text strings.Builder
		for range d.below(14) {
			text.WriteString(d.piece())
		}
		l, f := lex.Scan(text.String())
		wantList, want := again(text.String())
		if f != want || !slices.Equal(l, wantList) {
			t.Fatalf("%q: %v %v, not %v %v", text.String(), l, f, wantList, want)
		}
		met[f.Code]++
	}
	for _, code := range []api.Errno{api.OK, api.ErrForm, api.ErrRange, api.ErrSize} {
		if met[code] < 500 {
			t.Error("rarely drawn", code, met)
		}
	}
}

// P1: texts of any bytes end with an answer.
func TestDrawnBytes(t *testing.T) {
	d := drawer(0x9e3779b97f4a7c15)
	for range 40000 {
		text := make([]byte, d.below(12))
		for at := range text {
			text[at] = byte(d.below(256))
			if d.below(2) == 0 {
				text[at] = " \n#.=_L019azAZ"[d.below(14)]
			}
		}
		l, f := lex.Scan(string(text))
		wantList, want := again(string(text))
		if f != want || !slices.Equal(l, wantList) {
			t.Fatalf("%q: %v %v, not %v %v", text, l, f, wantList, want)
		}
	}
}

// P3: what one call answers is its own: changing it changes no other answer.
func TestAnswersShareNothing(t *testing.T) {
	const text = "x = 10L ; y"
	a, _ := lex.Scan(text)
	b, _ := lex.Scan(text)
	for at := range a {
		a[at] = api.Token{}
	}
	_ = append(a[:0], sign("!", 9))
	c, _ := lex.Scan(text)
	want := []api.Token{word("x", 0), sign("=", 2), long("10", 4), sign(";", 8), word("y", 10)}
	if !slices.Equal(b, want) || !slices.Equal(c, want) {
		t.Error(b, c)
	}
}
