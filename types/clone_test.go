package types_test

import (
	"reflect"
	"slices"
	"testing"

	"scarfjoint/api"
	"scarfjoint/types"
)

// P3: a clone is the same type, shares no memory with the type, and no two lists of it share any, though the type's own may.
func TestClone(t *testing.T) {
	inner := structure(whole, long)
	x := many(function(inner, structure(inner, inner, function(whole)), inner))
	kept := types.Text(x)
	c := types.Clone(x)
	if !reflect.DeepEqual(c, x) {
		t.Fatal(c)
	}
	seen := map[*api.Type]int{}
	names := map[*string]int{}
	var pass func(t api.Type)
	pass = func(t api.Type) {
		for at, part := range t.Parts {
			seen[&t.Parts[at]]++
			pass(part)
		}
		for at := range t.Names {
			names[&t.Names[at]]++
			t.Names[at] = "changed"
		}
	}
	pass(c)
	for _, times := range seen {
		if times > 1 {
			t.Error("two lists share memory")
		}
	}
	for _, times := range names {
		if times > 1 {
			t.Error("two lists share memory")
		}
	}
	if types.Text(x) != kept || len(seen) != 3+2+3+2+2+1+2 {
		t.Error(types.Text(x), len(seen))
	}
	// What lies behind a list's length is not taken over.
	l := append(slices.Clone(x.Parts), api.Type{Kind: 9})
	x.Parts = l[:len(l)-1]
	if c = types.Clone(x); types.Text(c) != kept || l[len(l)-1].Kind != 9 {
		t.Error(c)
	}
	if c = types.Clone(api.Type{Kind: api.TStruct, Name: "s"}); !reflect.DeepEqual(c, api.Type{}) {
		t.Error(c)
	}
}
