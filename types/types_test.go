package types_test

import (
	"math"
	"strings"
	"testing"

	"scarfjoint/api"
	"scarfjoint/types"
)

var (
	whole = api.Type{Kind: api.TInt}
	long  = api.Type{Kind: api.TLong}
)

// structure gives a struct whose fields are named a, b, ..
func structure(parts ...api.Type) api.Type {
	t := api.Type{Kind: api.TStruct, Name: "s", Parts: parts}
	for at := range parts {
		t.Names = append(t.Names, string(rune('a'+at)))
	}
	return t
}

// function gives one of these parameters, and, last, this result.
func function(parts ...api.Type) api.Type {
	return api.Type{Kind: api.TFn, Parts: parts}
}

func many(t api.Type) api.Type {
	t.Many = true
	return t
}

// times gives a list of one type.
func times(n int, t api.Type) []api.Type {
	var l []api.Type
	for range n {
		l = append(l, t)
	}
	return l
}

// nested gives a type that is so deep, of structs and functions by turns.
func nested(deep int, inner api.Type, outer bool) api.Type {
	if deep == 1 {
		return inner
	}
	if outer {
		return structure(nested(deep-1, inner, !outer))
	}
	return function(nested(deep-1, inner, !outer))
}

// checkMay holds all that is told of a type against whether it may be: of one that may not be all is zero.
func checkMay(t *testing.T, name string, x api.Type, want bool) {
	t.Helper()
	if types.May(x) != want {
		t.Errorf("%.60q: May: %v, not %v", name, !want, want)
	}
	if types.Same(x, x) != want {
		t.Errorf("%.60q: Same of it and itself: %v, not %v", name, !want, want)
	}
	if (types.Words(x) > 0) != want {
		t.Errorf("%.60q: Words: %d", name, types.Words(x))
	}
	if (types.Text(x) != "") != want {
		t.Errorf("%.60q: Text: %.60q", name, types.Text(x))
	}
	if (types.Clone(x).Kind != 0) != want || types.Text(types.Clone(x)) != types.Text(x) {
		t.Errorf("%.60q: Clone: %.60q", name, types.Text(types.Clone(x)))
	}
	if !want && (types.Even(x) || len(types.Places(x)) != 0) {
		t.Errorf("%.60q: Even, Places: %v %v", name, types.Even(x), types.Places(x))
	}
}

// checkName asks a name where a struct and where a field has it.
func checkName(t *testing.T, text string, want bool) {
	t.Helper()
	if types.Name(text) != want {
		t.Errorf("%.60q: Name: %v, not %v", text, !want, want)
	}
	x := structure(whole, long, whole)
	x.Name = text
	checkMay(t, "struct "+text, x, want)
	for at := range x.Names {
		x.Name, x.Names = "s", []string{"field_0", "field_1", "field_2"}
		x.Names[at] = text
		checkMay(t, "field "+text, x, want)
	}
}

// D1: the barred words, and words just beside them.
func TestBarredWords(t *testing.T) {
	for _, word := range strings.Fields("break count else extern extra fn if int long put return static struct while") {
		checkName(t, word, false)
		checkName(t, word+"_", true)
		checkName(t, word+"x", true)
		checkName(t, word+"0", true)
		checkName(t, "x"+word, true)
		checkName(t, word[:len(word)-1], true)
		checkName(t, word[1:], true)
		checkName(t, strings.ToUpper(word), true)
		checkName(t, strings.ToUpper(word[:1])+word[1:], true)
		checkName(t, " "+word, false)
		checkName(t, word+" ", false)
	}
	for _, word := range strings.Fields("for func main fun goto void char do then extras externs counts ints fns ifs n f") {
		checkName(t, word, true)
	}
}

// D1: how long a name is.
func TestLengthsOfNames(t *testing.T) {
	for n := range 40 {
		checkName(t, strings.Repeat("q", n), 1 <= n && n <= 16)
		checkName(t, strings.Repeat("Q_9", n)[:n], 1 <= n && n <= 16)
	}
	checkName(t, strings.Repeat("q", 1<<20), false)
}

// D1: each byte ahead, in the midst, and last.
func TestBytesOfNames(t *testing.T) {
	const letters = "abcdefghijklmnopqrstuvwxyzABCDEFGHIJKLMNOPQRSTUVWXYZ"
	const behind = letters + "0123456789_"
	for b := range 256 {
		one := string([]byte{byte(b)})
		ahead := strings.Contains(letters, one)
		later := strings.Contains(behind, one)
		checkName(t, one, ahead)
		checkName(t, one+"z", ahead)
		checkName(t, "z"+one, later)
		checkName(t, "z"+one+"z", later)
		checkName(t, strings.Repeat("z", 15)+one, later)
		checkName(t, strings.Repeat("z", 16)+one, false)
	}
	for _, text := range []string{"é", "zé", "ａ", "z\u0301", "z.z", "z z", "z\x00", "0z", "_z", "__", "9", "z-", "\xff"} {
		checkName(t, text, false)
	}
}

// D1: types that are as deep as may be, and one deeper, by each way down.
func TestHowDeep(t *testing.T) {
	for _, inner := range []api.Type{whole, long} {
		for _, first := range []bool{true, false} {
			for deep := 1; deep <= 9; deep++ {
				checkMay(t, "nested", nested(deep, inner, first), deep <= api.MaxTypes)
			}
		}
	}
	down, up := whole, whole
	for deep := 2; deep <= 9; deep++ {
		down, up = structure(down), function(up)
		checkMay(t, "structs", down, deep <= api.MaxTypes)
		checkMay(t, "functions", up, deep <= api.MaxTypes)
	}
	// The deepest part counts, wherever it stands.
	for at := range 6 {
		for _, deep := range []int{3, 4} {
			parts := times(6, whole)
			parts[at] = nested(deep, whole, true)
			checkMay(t, "a deep field", structure(parts...), deep == 3)
			parts[at] = nested(deep, whole, false)
			checkMay(t, "a deep parameter", function(parts...), deep == 3)
		}
	}
}

// P1: types that are very deep, that have no end, and very long lists.
func TestTypesWithoutAnEnd(t *testing.T) {
	x := whole
	for range 1 << 16 {
		x = structure(x)
	}
	checkMay(t, "very deep", x, false)
	for _, kind := range []int{api.TInt, api.TLong, api.TStruct, api.TFn} {
		endless := api.Type{Kind: kind, Parts: make([]api.Type, 1)}
		if kind == api.TStruct {
			endless.Name, endless.Names = "s", []string{"a"}
		}
		endless.Parts[0] = endless
		checkMay(t, "without an end", endless, false)
	}
	wide := api.Type{Kind: api.TFn, Parts: make([]api.Type, 1<<20)}
	for at := range wide.Parts {
		wide.Parts[at] = whole
	}
	checkMay(t, "very many parameters", wide, false)
	wide.Kind, wide.Name, wide.Names = api.TStruct, "s", make([]string, 1<<20)
	checkMay(t, "very many fields", wide, false)
}

// D1: Kinds that are none, whatever else they have.
func TestKindsThatAreNone(t *testing.T) {
	for _, kind := range []int{0, 5, 6, -1, -2, -3, -4, 256 + 1, 1<<16 + 3, 1<<32 + 1, 1<<32 + 4, math.MaxInt, math.MinInt, math.MinInt + 4} {
		for _, x := range []api.Type{{}, structure(whole), function(whole), many(function(whole))} {
			x.Kind = kind
			checkMay(t, "no such Kind", x, false)
			checkMay(t, "a field of no such Kind", structure(whole, x), false)
			checkMay(t, "a result of no such Kind", function(whole, x), false)
		}
	}
}

// D1: int and long have nothing beside their Kind.
func TestIntAndLong(t *testing.T) {
	for _, kind := range []int{api.TInt, api.TLong} {
		x := api.Type{Kind: kind}
		checkMay(t, "plain", x, true)
		checkMay(t, "with empty lists", api.Type{Kind: kind, Names: []string{}, Parts: []api.Type{}}, true)
		checkMay(t, "with lists cut to nothing", api.Type{Kind: kind, Names: []string{"a", "b"}[:0], Parts: []api.Type{whole, long}[:0]}, true)
		checkMay(t, "with a Name", api.Type{Kind: kind, Name: "int"}, false)
		checkMay(t, "with another Name", api.Type{Kind: kind, Name: "s"}, false)
		checkMay(t, "with Names", api.Type{Kind: kind, Names: []string{"a"}}, false)
		checkMay(t, "with an empty name", api.Type{Kind: kind, Names: []string{""}}, false)
		checkMay(t, "with Parts", api.Type{Kind: kind, Parts: []api.Type{whole}}, false)
		checkMay(t, "with Parts that are none", api.Type{Kind: kind, Parts: make([]api.Type, 1)}, false)
		checkMay(t, "with both", api.Type{Kind: kind, Names: []string{"a"}, Parts: []api.Type{whole}}, false)
		checkMay(t, "with Many", api.Type{Kind: kind, Many: true}, false)
	}
}

// D1: how many fields a struct has.
func TestHowManyFields(t *testing.T) {
	for n := range 12 {
		checkMay(t, "fields", structure(times(n, whole)...), 1 <= n && n <= api.MaxFields)
	}
	for names := range 9 {
		for parts := range 9 {
			x := structure(times(names, whole)...)
			x.Parts = times(parts, whole)
			checkMay(t, "fields", x, names == parts && 1 <= names && names <= api.MaxFields)
		}
	}
	empty := structure()
	empty.Names, empty.Parts = []string{}, []api.Type{}
	checkMay(t, "empty lists", empty, false)
	cut := structure(whole, whole, whole)
	cut.Names, cut.Parts = cut.Names[:2], cut.Parts[:2]
	checkMay(t, "cut lists", cut, true)
}

// D1: any two fields of one name.
func TestFieldsOfOneName(t *testing.T) {
	for a := range 6 {
		for b := range 6 {
			x := structure(times(6, whole)...)
			x.Names[a] = x.Names[b]
			checkMay(t, "two of one name", x, a == b)
			x.Names[a] = strings.ToUpper(x.Names[b])
			checkMay(t, "small and great letters", x, true)
		}
	}
	x := structure(whole, long)
	x.Names = []string{"s", "q"}
	checkMay(t, "a field of the struct's name", x, true)
	inner := structure(structure(whole, long), long)
	checkMay(t, "an inner field of an outer one's name", inner, true)
	x = structure(structure(whole), structure(long))
	checkMay(t, "two other structs of one Name", x, true)
}

// D1: a struct's other fields.
func TestStructsThatMayNotBe(t *testing.T) {
	checkMay(t, "Many", many(structure(whole)), false)
	x := structure(whole)
	x.Name = ""
	checkMay(t, "no Name", x, false)
}

// D1: how many words a struct has.
func TestHowManyWords(t *testing.T) {
	pair := structure(whole, whole)
	five, six := structure(times(5, whole)...), structure(times(6, whole)...)
	for _, c := range []struct {
		name  string
		x     api.Type
		words int
	}{
		{"six longs", structure(times(6, long)...), 12},
		{"six pairs", structure(times(6, pair)...), 12},
		{"six and six", structure(six, six), 12},
		{"six, five and one", structure(six, five, whole), 12},
		{"six, five", structure(six, five), 11},
		{"eleven and a function", structure(six, five, function(whole)), 12},
		{"five longs, one int: one more, as it is even", structure(long, long, long, long, long, whole), 12},
		{"one int, five longs", structure(whole, long, long, long, long, long), 12},
		{"all twelve of one struct", structure(structure(six, six)), 12},
	} {
		checkMay(t, c.name, c.x, true)
		if types.Words(c.x) != c.words {
			t.Errorf("%s: %d words, not %d", c.name, types.Words(c.x), c.words)
		}
	}
	for _, c := range []struct {
		name string
		x    api.Type
	}{
		{"13: six, six and one", structure(six, six, whole)},
		{"13: one, six and six", structure(whole, six, six)},
		{"13: six, six and a function", structure(six, six, function(whole))},
		{"14: six, six and long", structure(six, six, long)},
		{"14: five pairs and 3", structure(pair, pair, pair, pair, pair, structure(whole, long))},
		{"14: 12 ahead, long and int", structure(six, whole, long, whole, whole, whole)},
		{"14: an int between longs", structure(six, whole, long, long, whole)},
		{"14: 13, and one more, as it is even", structure(long, six, five)},
		{"14: twelve at 1, at 2 as it is even", structure(whole, structure(times(6, long)...))},
		{"24", structure(structure(six, six), structure(six, six))},
		{"72", structure(times(6, structure(six, six))...)},
	} {
		checkMay(t, c.name, c.x, false)
		checkMay(t, "a function of "+c.name, function(c.x), false)
		checkMay(t, "a function to "+c.name, function(c.x, whole), false)
	}
	// A function is one word, however many its parts have.
	checkMay(t, "functions of much", structure(times(6, function(times(7, structure(times(6, long)...))...))...), true)
}

// D1: functions.
func TestFunctions(t *testing.T) {
	for n := range 15 {
		x := function(times(n, whole)...)
		checkMay(t, "parts", x, 1 <= n && n <= api.MaxParams+1)
		checkMay(t, "parts, many", many(x), 1 <= n && n <= api.MaxParams+1)
	}
	checkMay(t, "an empty list", api.Type{Kind: api.TFn, Parts: []api.Type{}}, false)
	checkMay(t, "an empty list of Names", api.Type{Kind: api.TFn, Names: []string{}, Parts: []api.Type{whole}}, true)
	checkMay(t, "Many and no parameter", many(function(long)), true)
	for _, name := range []string{"f", "fn", " ", "\x00"} {
		x := function(whole)
		x.Name = name
		checkMay(t, "a Name", x, false)
	}
	for _, names := range [][]string{{"a"}, {""}, {"a", "b"}} {
		x := function(whole, whole)
		x.Names = names
		checkMay(t, "Names", x, false)
	}
}

// D1: a part that may not be, at each place.
func TestPartsThatMayNotBe(t *testing.T) {
	named := whole
	named.Name = "a"
	for _, bad := range []api.Type{{}, named, many(long), structure(), function(), many(structure(whole)), structure(times(7, whole)...), function(times(8, whole)...)} {
		for at := range 6 {
			parts := times(6, whole)
			parts[at] = bad
			checkMay(t, "a field", structure(parts...), false)
			checkMay(t, "a parameter or the result", function(parts...), false)
			checkMay(t, "a field's field", structure(structure(parts...)), false)
			checkMay(t, "a field's parameter", structure(function(parts...)), false)
			checkMay(t, "a result's result", function(function(parts...)), false)
		}
	}
}
