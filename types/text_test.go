package types_test

import (
	"testing"

	"scarfjoint/api"
	"scarfjoint/types"
)

// D3: texts by hand.
func TestTexts(t *testing.T) {
	named := structure(whole, long)
	named.Name, named.Names = "Pair_2", []string{"x1", "Y"}
	for _, c := range []struct {
		x    api.Type
		want string
	}{
		{whole, "int"},
		{long, "long"},
		{structure(whole), "struct s{int a;}"},
		{structure(whole, long, whole), "struct s{int a;long b;int c;}"},
		{named, "struct Pair_2{int x1;long Y;}"},
		{structure(named, function(whole)), "struct s{struct Pair_2{int x1;long Y;} a;fn()int b;}"},
		{function(whole), "fn()int"},
		{function(long), "fn()long"},
		{function(whole, long), "fn(int)long"},
		{function(whole, long, whole), "fn(int,long)int"},
		{function(times(7, long)...), "fn(long,long,long,long,long,long)long"},
		{many(function(whole)), "fn(...)int"},
		{many(function(long, whole)), "fn(long,...)int"},
		{many(function(long, whole, long)), "fn(long,int,...)long"},
		{function(named), "fn()struct Pair_2{int x1;long Y;}"},
		{function(named, named), "fn(struct Pair_2{int x1;long Y;})struct Pair_2{int x1;long Y;}"},
		{function(function(whole)), "fn()fn()int"},
		{function(function(whole), whole), "fn(fn()int)int"},
		{many(function(many(function(whole)), many(function(long, long)))), "fn(fn(...)int,...)fn(long,...)long"},
		{structure(structure(structure(long))), "struct s{struct s{struct s{long a;} a;} a;}"},
	} {
		if text := types.Text(c.x); text != c.want {
			t.Errorf("%q, not %q", text, c.want)
		}
	}
}

// others gives types of which no two are the same.
func others() []api.Type {
	name, field := structure(whole, long), structure(whole, long)
	name.Name, field.Names[1] = "S", "c"
	return []api.Type{
		whole, long,
		structure(whole), structure(long), structure(whole, whole), structure(whole, long), structure(long, whole),
		name, field, structure(structure(whole)), structure(function(whole)), structure(many(function(whole))), structure(function(long)),
		function(whole), function(long), function(whole, whole), function(whole, long), function(long, whole),
		many(function(whole)), many(function(long)), many(function(whole, whole)), many(function(whole, long)), many(function(long, whole)),
		function(structure(whole, long)), function(name), function(field), function(structure(whole, long), whole),
		function(function(whole), whole), function(whole, function(whole)), function(many(function(whole)), whole),
	}
}

// D3: types that are alike, and types that part in one place.
func TestSame(t *testing.T) {
	again := others()
	for a, x := range others() {
		for b, y := range again {
			if types.Same(x, y) != (a == b) {
				t.Errorf("%s, %s: Same is %v", types.Text(x), types.Text(y), a != b)
			}
		}
	}
	bare := api.Type{Kind: api.TFn, Names: []string{}, Parts: []api.Type{{Kind: api.TInt, Names: []string{}, Parts: []api.Type{}}}}
	if !types.Same(bare, function(whole)) || !types.Same(function(whole), bare) {
		t.Error("empty lists part types")
	}
}

// D3: Same is false of types that may not be, though both have the text "".
func TestSameOfTypesThatMayNotBe(t *testing.T) {
	bad := []api.Type{{}, {Kind: 5}, structure(), function(), many(whole), structure(times(7, whole)...)}
	for _, x := range bad {
		for _, y := range bad {
			if types.Same(x, y) {
				t.Error("Same of two that may not be:", x, y)
			}
		}
		for _, y := range others() {
			if types.Same(x, y) || types.Same(y, x) {
				t.Error("Same of one that may not be:", x, y)
			}
		}
	}
}
