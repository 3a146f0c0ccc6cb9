package abi_test

import (
	"reflect"
	"slices"
	"testing"

	"scarfjoint/abi"
	"scarfjoint/api"
	"scarfjoint/types"
)

// drawer draws numbers: the same ones each time.
type drawer uint64

func (d *drawer) below(n int) int {
	*d ^= *d << 13
	*d ^= *d >> 7
	*d ^= *d << 17
	return int(uint64(*d) >> 11 % uint64(n))
}

// part draws a type that is at most so deep, mostly one that may be.
func (d *drawer) part(deep int) api.Type {
	switch n := d.below(20); {
	case n < 6 || deep < 2:
		return whole
	case n < 12:
		return long
	case n < 18:
		return structure(d.parts(1+d.below(3)+d.below(2)*d.below(3), deep-1)...)
	}
	x := function(d.parts(1+d.below(3), deep-1)...)
	x.Many = d.below(2) == 0
	return x
}

func (d *drawer) parts(n, deep int) []api.Type {
	var l []api.Type
	for range n {
		l = append(l, d.part(deep))
	}
	return l
}

// call draws a function's type and types beyond; now and then what is wrong, too.
func (d *drawer) call() (api.Type, []api.Type) {
	x := function(d.parts(1+d.below(7), 3)...)
	x.Many = d.below(3) > 0
	if d.below(40) == 0 {
		x = d.part(5)
	}
	var beyond []api.Type
	if x.Many || d.below(20) == 0 {
		for range d.below(7) + d.below(40)/39 {
			beyond = append(beyond, []api.Type{whole, long}[d.below(2)])
		}
	}
	if len(beyond) > 0 && d.below(20) == 0 {
		beyond[d.below(len(beyond))] = []api.Type{{}, many(whole), structure(long), function(whole)}[d.below(4)]
	}
	return x, beyond
}

// checkBook holds what is told of a call against the chapter written once more.
func checkBook(t *testing.T, x api.Type, beyond []api.Type) api.Errno {
	t.Helper()
	p, e := abi.Places(x, beyond)
	want, err := told(x, beyond)
	if e != err || shown(p) != shown(want) || len(p.Copied) != len(p.Params) {
		t.Fatalf("%s, %v: %d %s, not %d %s", types.Text(x), beyond, e, shown(p), err, shown(want))
	}
	return e
}

// I1, I2, I3: drawn calls against the chapter written once more.
func TestDrawnCalls(t *testing.T) {
	d := drawer(0x9e3779b97f4a7c15)
	seen := map[api.Errno]int{}
	for range 60000 {
		x, beyond := d.call()
		seen[checkBook(t, x, beyond)]++
	}
	for _, e := range []api.Errno{api.OK, api.ErrKind, api.ErrRange} {
		if seen[e] < 500 {
			t.Error("too few of one sort:", seen)
		}
	}
}

// I2: all rows of up to four parameters, of a type of each sort, with each sort of result.
func TestAllRows(t *testing.T) {
	sorts := []api.Type{whole, long, ints(2), ints(3), ints(4), pair, wide, ints(5), huge}
	rows := [][]api.Type{{}}
	for at := 0; at < len(rows); at++ {
		row := rows[at]
		for _, result := range []api.Type{whole, long, ints(3)} {
			x := function(append(slices.Clone(row), result)...)
			checkBook(t, x, nil)
			checkBook(t, many(x), nil)
			checkBook(t, many(x), []api.Type{whole, long, whole}[:at%4])
		}
		for _, sort := range sorts {
			if len(row) < 4 {
				rows = append(rows, append(slices.Clone(row), sort))
			}
		}
	}
	if len(rows) != 1+9+81+729+6561 {
		t.Error(len(rows))
	}
}

// checkApart asks that no two words of a call lie in one register or at one place, that registers are 0 to 3, that parameters lie ahead of the extra words, and that all places are below Area.
func checkApart(t *testing.T, x api.Type, beyond []api.Type, p api.Places) {
	t.Helper()
	seen := map[api.Loc]int{}
	lies := func(where api.Loc, limit int) {
		seen[where]++
		if seen[where] > 1 || where.N < 0 || where.N >= limit {
			t.Fatal(types.Text(x), where, "is there twice, or beyond what there is:", shown(p))
		}
	}
	for _, n := range []int{p.Result, p.Count} {
		if n != -1 {
			lies(api.Loc{N: n}, 4)
		}
	}
	for _, where := range slices.Concat(p.Params...) {
		switch {
		case !where.Stack:
			lies(where, 4)
		case x.Many:
			lies(where, p.Extra)
		default:
			lies(where, p.Area)
		}
	}
	next := p.Extra
	for _, y := range beyond {
		for range types.Words(y) {
			lies(api.Loc{Stack: true, N: next}, p.Area)
			next++
		}
	}
}

// checkEven asks where longs lie, also those within structs that are not copied: at an even register or place, and the next one.
func checkEven(t *testing.T, x api.Type, p api.Places) {
	t.Helper()
	for at, y := range x.Parts[:len(x.Parts)-1] {
		if p.Copied[at] {
			continue
		}
		for _, n := range longsIn(y) {
			low, high := p.Params[at][n], p.Params[at][n+1]
			if low.N%2 != 0 || high != (api.Loc{Stack: low.Stack, N: low.N + 1}) {
				t.Fatal(types.Text(x), "a long at", low, high, shown(p))
			}
		}
	}
}

// longsIn tells where a type's longs lie in it.
func longsIn(x api.Type) []int {
	switch x.Kind {
	case api.TLong:
		return []int{0}
	case api.TStruct:
		var l []int
		for at, place := range types.Places(x) {
			for _, n := range longsIn(x.Parts[at]) {
				l = append(l, place+n)
			}
		}
		return l
	}
	return nil
}

// I4: drawn calls: words lie apart, longs at even places, and what both sides know does not hang on what is beyond.
func TestBothSides(t *testing.T) {
	d := drawer(0x2545f4914f6cdd1d)
	for done := 0; done < 30000; {
		x, beyond := d.call()
		p, e := abi.Places(x, beyond)
		if e != api.OK {
			continue
		}
		done++
		checkApart(t, x, beyond, p)
		checkEven(t, x, p)
		bare, e := abi.Places(x, nil)
		if e != api.OK {
			t.Fatal(types.Text(x), e)
		}
		if p.Area < bare.Area || p.Area%2 != 0 || p.Extra%2 != 0 {
			t.Fatal(types.Text(x), shown(p), shown(bare))
		}
		p.Area, bare.Area = 0, 0
		if !reflect.DeepEqual(p, bare) {
			t.Fatal(types.Text(x), beyond, shown(p), shown(bare))
		}
	}
}
