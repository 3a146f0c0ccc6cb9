package abi_test

import (
	"fmt"
	"math"
	"reflect"
	"strings"
	"testing"

	"scarfjoint/abi"
	"scarfjoint/api"
)

var (
	whole = api.Type{Kind: api.TInt}
	long  = api.Type{Kind: api.TLong}
)

// structure gives a struct whose fields are named a, b, ..
func structure(parts ...api.Type) api.Type {
	t := api.Type{Kind: api.TStruct, Name: "s", Parts: parts}
	for at := range parts {
		t.Names = append(t.Names, string(rune('a'+at)))
	}
	return t
}

// function gives one of these parameters, and, last, this result.
func function(parts ...api.Type) api.Type {
	return api.Type{Kind: api.TFn, Parts: parts}
}

func many(t api.Type) api.Type {
	t.Many = true
	return t
}

// times gives a list of one type.
func times(n int, t api.Type) []api.Type {
	var l []api.Type
	for range n {
		l = append(l, t)
	}
	return l
}

// ints gives a struct of so many words that is not even.
func ints(n int) api.Type {
	if n <= api.MaxFields {
		return structure(times(n, whole)...)
	}
	return structure(ints(api.MaxFields), ints(n-api.MaxFields))
}

// nested gives a type that is so deep, of functions' results or of structs' fields.
func nested(deep int, inner api.Type, around func(...api.Type) api.Type) api.Type {
	for range deep - 1 {
		inner = around(inner)
	}
	return inner
}

// shown writes all of what is told: r of a register, s of a place of the area, * ahead of a parameter that is copied.
func shown(p api.Places) string {
	var b strings.Builder
	for at, param := range p.Params {
		if at > 0 {
			b.WriteString(", ")
		}
		if p.Copied[at] {
			b.WriteString("*")
		}
		for n, where := range param {
			if n > 0 {
				b.WriteString(" ")
			}
			fmt.Fprintf(&b, "%c%d", map[bool]rune{false: 'r', true: 's'}[where.Stack], where.N)
		}
	}
	return fmt.Sprintf("(%s) result %d count %d results %v area %d extra %d", &b, p.Result, p.Count, p.Results, p.Area, p.Extra)
}

// checkWrong asks for an error, and that all else is zero (P2).
func checkWrong(t *testing.T, name string, x api.Type, beyond []api.Type, want api.Errno) {
	t.Helper()
	p, e := abi.Places(x, beyond)
	if e != want {
		t.Errorf("%s: %d, not %d", name, e, want)
	}
	if e == api.OK {
		return
	}
	if len(p.Params)+len(p.Copied)+len(p.Results) != 0 {
		t.Errorf("%s: lists behind an error: %+v", name, p)
	}
	p.Params, p.Copied, p.Results = nil, nil, nil
	if !reflect.DeepEqual(p, api.Places{}) {
		t.Errorf("%s: behind an error: %+v", name, p)
	}
}

// noFunctions gives types that are not of a function that may be.
func noFunctions() map[string]api.Type {
	named, listed := function(whole), function(whole)
	named.Name, listed.Names = "f", []string{"a"}
	circle := []api.Type{whole}
	circle[0] = function(circle...)
	return map[string]api.Type{
		"nothing":                        {},
		"no kind":                        {Kind: 5, Parts: []api.Type{whole}},
		"below all kinds":                {Kind: math.MinInt, Parts: []api.Type{whole}},
		"beyond all kinds":               {Kind: math.MaxInt, Parts: []api.Type{whole}},
		"int":                            whole,
		"long":                           long,
		"a struct":                       structure(whole, long),
		"a struct of a function":         structure(function(whole)),
		"an int of any number":           many(whole),
		"a struct of any number":         many(structure(whole)),
		"no result":                      function(),
		"too many parameters":            function(times(api.MaxParams+2, whole)...),
		"very many parameters":           function(times(1<<16, whole)...),
		"with a name":                    named,
		"with fields' names":             listed,
		"a parameter that may not be":    function(api.Type{}, whole),
		"a second parameter of those":    function(whole, many(whole), whole),
		"a result that may not be":       function(whole, api.Type{Kind: 9}),
		"a struct that is too large":     function(ints(13), whole),
		"such a result":                  function(ints(13)),
		"no fields":                      function(structure(), whole),
		"two deep":                       function(structure(whole, function()), whole),
		"three deep":                     function(function(structure(many(long)), whole), whole),
		"one too deep, results":          nested(api.MaxTypes+1, whole, function),
		"one too deep, a struct's parts": function(nested(api.MaxTypes, whole, structure), whole),
		"very deep":                      nested(1<<12, whole, function),
		"without end":                    circle[0],
	}
}

// I1: ErrKind of a type that is no function's, or of a function's that may not be, at any depth.
func TestNoFunction(t *testing.T) {
	for name, x := range noFunctions() {
		checkWrong(t, name, x, nil, api.ErrKind)
		checkWrong(t, name+", an empty list beyond", x, []api.Type{}, api.ErrKind)
	}
	checkWrong(t, "as deep as may be, results", nested(api.MaxTypes, whole, function), nil, api.OK)
	checkWrong(t, "as deep as may be, structs", function(nested(api.MaxTypes-1, long, structure), whole), nil, api.OK)
	checkWrong(t, "as many parameters as may be", function(times(api.MaxParams+1, whole)...), nil, api.OK)
	checkWrong(t, "a struct as large as may be", function(ints(12), ints(12)), nil, api.OK)
}

// I1: ErrRange of types beyond, where there is no place for them, or for fewer alone.
func TestBeyondRange(t *testing.T) {
	one, open := function(whole, whole), many(function(whole, whole))
	checkWrong(t, "one, of a function that is not of any number", one, times(1, whole), api.ErrRange)
	checkWrong(t, "a long", one, times(1, long), api.ErrRange)
	checkWrong(t, "MaxParams of them", one, times(api.MaxParams, whole), api.ErrRange)
	checkWrong(t, "more than MaxParams", one, times(api.MaxParams+1, whole), api.ErrRange)
	checkWrong(t, "an empty list", one, []api.Type{}, api.OK)
	checkWrong(t, "behind a list's length", one, times(3, whole)[:0], api.OK)
	checkWrong(t, "of any number, MaxParams", open, times(api.MaxParams, whole), api.OK)
	checkWrong(t, "of any number, MaxParams longs", open, times(api.MaxParams, long), api.OK)
	checkWrong(t, "of any number, one more", open, times(api.MaxParams+1, whole), api.ErrRange)
	checkWrong(t, "of any number, one more, longs", open, times(api.MaxParams+1, long), api.ErrRange)
	checkWrong(t, "of any number, very many", open, times(1<<20, whole), api.ErrRange)
	full := many(function(times(api.MaxParams+1, long)...))
	checkWrong(t, "as many parameters as may be, MaxParams", full, times(api.MaxParams, long), api.OK)
	checkWrong(t, "as many parameters as may be, one more", full, times(api.MaxParams+1, long), api.ErrRange)
	bare := many(function(whole))
	checkWrong(t, "no parameter, MaxParams", bare, times(api.MaxParams, long), api.OK)
	checkWrong(t, "no parameter, one more", bare, times(api.MaxParams+1, long), api.ErrRange)
}

// noNumbers gives types that are neither int nor long.
func noNumbers() map[string]api.Type {
	return map[string]api.Type{
		"nothing":              {},
		"no kind":              {Kind: 5},
		"below all kinds":      {Kind: -1},
		"a struct":             structure(whole),
		"a struct of a long":   structure(long),
		"a large struct":       ints(12),
		"a function":           function(whole),
		"one of any number":    many(function(long)),
		"no function":          function(),
		"no struct":            structure(),
		"an int with a name":   {Kind: api.TInt, Name: "int"},
		"a long with names":    {Kind: api.TLong, Names: []string{"a"}},
		"an int with parts":    {Kind: api.TInt, Parts: []api.Type{whole}},
		"an int of any number": many(whole),
		"a long of any number": many(long),
		"very deep":            nested(1<<12, whole, structure),
	}
}

// I1: ErrKind of a type beyond that is neither int nor long, wherever it stands.
func TestBeyondKind(t *testing.T) {
	open := many(function(whole, whole))
	for name, x := range noNumbers() {
		checkWrong(t, name, open, []api.Type{x}, api.ErrKind)
		for at := range api.MaxParams {
			l := times(api.MaxParams, long)
			l[at] = x
			checkWrong(t, fmt.Sprint(name, " at ", at), open, l, api.ErrKind)
			checkWrong(t, fmt.Sprint(name, " behind the length at ", at), open, l[:at], api.OK)
		}
	}
	lists := api.Type{Kind: api.TLong, Names: []string{}, Parts: []api.Type{}}
	checkWrong(t, "a long with lists that are empty", open, []api.Type{lists}, api.OK)
}

// I1: of two things that are wrong the one that is named first is told.
func TestTwoWrong(t *testing.T) {
	one, open := function(whole, whole), many(function(whole, whole))
	for name, x := range noFunctions() {
		checkWrong(t, name+", and one beyond", x, times(1, whole), api.ErrKind)
		checkWrong(t, name+", and too many beyond", x, times(api.MaxParams+1, whole), api.ErrKind)
		checkWrong(t, name+", and no number beyond", x, times(1, structure(whole)), api.ErrKind)
		checkWrong(t, name+", of any number, and too many", many(x), times(api.MaxParams+1, whole), api.ErrKind)
	}
	for name, x := range noNumbers() {
		checkWrong(t, name+", of one not of any number", one, times(1, x), api.ErrRange)
		checkWrong(t, name+", and too many", open, times(api.MaxParams+1, x), api.ErrRange)
		checkWrong(t, name+", and too many, not of any number", one, times(api.MaxParams+1, x), api.ErrRange)
		checkWrong(t, name+", last of too many", open, append(times(api.MaxParams, whole), x), api.ErrRange)
		checkWrong(t, name+", of no function", whole, times(1, x), api.ErrKind)
	}
}
