package types_test

import (
	"slices"
	"testing"

	"scarfjoint/api"
	"scarfjoint/types"
)

// checkLayout holds all that is told of where a type's words lie against what is wanted.
func checkLayout(t *testing.T, name string, x api.Type, words int, even bool, places ...int) {
	t.Helper()
	if types.Words(x) != words || types.Even(x) != even || !slices.Equal(types.Places(x), places) {
		t.Errorf("%s: %d words, even %v, places %v, not %d, %v, %v", name, types.Words(x), types.Even(x), types.Places(x), words, even, places)
	}
}

// D2: types that are no structs have no places.
func TestLayoutOfOthers(t *testing.T) {
	checkLayout(t, "int", whole, 1, false)
	checkLayout(t, "long", long, 2, true)
	checkLayout(t, "fn()int", function(whole), 1, false)
	// What a function is of does not make it even, and has no words in it.
	checkLayout(t, "fn()long", function(long), 1, false)
	checkLayout(t, "fn(long)int", function(long, whole), 1, false)
	checkLayout(t, "fn(long,long)struct", function(long, long, structure(long, long)), 1, false)
	checkLayout(t, "fn(...)long", many(function(long)), 1, false)
}

// D2: structs by hand.
func TestLayoutOfStructs(t *testing.T) {
	checkLayout(t, "the chapter's", structure(whole, long, whole), 6, true, 0, 2, 4)
	checkLayout(t, "one int", structure(whole), 1, false, 0)
	checkLayout(t, "one long", structure(long), 2, true, 0)
	checkLayout(t, "one function", structure(function(long)), 1, false, 0)
	checkLayout(t, "ints: odd, and no more", structure(whole, whole, whole), 3, false, 0, 1, 2)
	checkLayout(t, "long ahead", structure(long, whole), 4, true, 0, 2)
	checkLayout(t, "long behind", structure(whole, long), 4, true, 0, 2)
	checkLayout(t, "long at an even place", structure(whole, whole, long), 4, true, 0, 1, 2)
	checkLayout(t, "long at an odd place", structure(whole, whole, whole, long), 6, true, 0, 1, 2, 4)
	checkLayout(t, "longs", structure(long, long, long), 6, true, 0, 2, 4)
	checkLayout(t, "by turns", structure(whole, long, whole, long), 8, true, 0, 2, 4, 6)
	checkLayout(t, "six of them", structure(long, whole, long, whole, whole, long), 10, true, 0, 2, 4, 6, 7, 8)
	checkLayout(t, "functions between", structure(function(long), long, function(whole)), 6, true, 0, 2, 4)
}

// D2: even and odd structs within structs.
func TestLayoutWithin(t *testing.T) {
	odd, even := structure(whole, whole, whole), structure(whole, long)
	checkLayout(t, "odd alone", structure(odd), 3, false, 0)
	checkLayout(t, "even alone", structure(even), 4, true, 0)
	checkLayout(t, "odd behind an int", structure(whole, odd), 4, false, 0, 1)
	checkLayout(t, "odd twice", structure(odd, odd, whole), 7, false, 0, 3, 6)
	checkLayout(t, "even behind an int", structure(whole, even), 6, true, 0, 2)
	checkLayout(t, "even behind an odd one", structure(odd, even), 8, true, 0, 4)
	checkLayout(t, "even ahead of an odd one", structure(even, odd), 8, true, 0, 4)
	checkLayout(t, "even between", structure(odd, even, odd), 12, true, 0, 4, 8)
	checkLayout(t, "a struct of 4 words that is not even lies at once", structure(whole, structure(whole, whole, whole, whole), long), 8, true, 0, 1, 6)
	checkLayout(t, "two deep", structure(whole, structure(structure(whole, long), whole)), 8, true, 0, 2)
	checkLayout(t, "two deep, even by what is innermost", structure(whole, structure(structure(long))), 4, true, 0, 2)
	checkLayout(t, "two deep, odd", structure(whole, structure(structure(whole))), 2, false, 0, 1)
	checkLayout(t, "a function of even ones is not even", structure(whole, function(even, even), odd), 5, false, 0, 1, 2)
}

// P3: a type that is handed in is neither changed nor kept, and what lies behind its lists is not read.
func TestListsThatAreHandedIn(t *testing.T) {
	names := []string{"a", "b", "c", "int", ""}
	parts := []api.Type{whole, long, whole, {Kind: 9}, structure()}
	inner := []api.Type{whole, long, {Kind: 9}}
	parts[2] = api.Type{Kind: api.TFn, Parts: inner[:2]}
	x := api.Type{Kind: api.TStruct, Name: "s", Names: names[:3], Parts: parts[:3]}
	checkLayout(t, "cut lists", x, 6, true, 0, 2, 4)
	if text := types.Text(x); text != "struct s{int a;long b;fn(int)long c;}" {
		t.Error(text)
	}
	if !types.May(x) || !types.Same(x, x) {
		t.Error("May, Same")
	}
	if !slices.Equal(names, []string{"a", "b", "c", "int", ""}) || inner[2].Kind != 9 || inner[0].Kind != api.TInt || inner[1].Kind != api.TLong {
		t.Error("changed:", names, inner)
	}
	for at, kind := range []int{api.TInt, api.TLong, api.TFn, 9, api.TStruct} {
		if parts[at].Kind != kind {
			t.Error("changed:", parts)
		}
	}
	// What is told next hangs on what is handed in next.
	parts[1] = whole
	checkLayout(t, "another field", x, 3, false, 0, 1, 2)
	names[1] = "a"
	checkMay(t, "another name", x, false)
}

// P3: places are new memory each time.
func TestPlacesAreNew(t *testing.T) {
	x := structure(whole, long, whole)
	first := types.Places(x)
	for at := range first {
		first[at] = 77
	}
	_ = append(first[:1], 78, 79, 80, 81)
	checkLayout(t, "again", x, 6, true, 0, 2, 4)
}
