package tail_test

import (
	"testing"

	"scarfjoint/abi"
	"scarfjoint/api"
	"scarfjoint/types"
)

// areas are parameters, by how great the Area of a function is that returns one or two words and has these: of as many words as there may be, of few, and with longs and even structs that leave registers or places out.
func areas() map[int][][]api.Type {
	return map[int][][]api.Type{
		0: {
			nil, some(4, whole), some(2, long), {whole, long}, {ints(4)}, {even}, {whole, whole, long}, {whole, ints(3)}, {long, ints(2)},
		},
		2: {
			some(5, whole), some(6, whole), some(3, long), {whole, long, whole}, {whole, long, whole, whole}, {whole, long, long}, {whole, whole, whole, long},
			{ints(3), long}, {ints(4), whole}, {ints(4), ints(2)}, {whole, even}, {ints(3), ints(3)}, {ints(3), ints(2)}, {long, even}, {whole, whole, even},
		},
		4: {
			some(4, long), {whole, long, whole, long}, {even, whole, long}, {long, long, whole, long}, {ints(4), ints(3)}, {ints(4), ints(4)},
			{ints(4), even}, {ints(3), even}, {whole, whole, whole, even}, {whole, long, long, whole}, {whole, even, whole}, {ints(4), whole, long},
		},
		6: {
			some(5, long), {even, whole, even}, {ints(4), whole, long, whole}, {long, long, whole, long, whole, whole}, {whole, long, whole, long, whole}, {ints(4), ints(3), ints(3)},
			{ints(4), whole, even}, {whole, even, even},
		},
		8:  {some(6, long), some(3, ints(4)), some(3, even), {long, long, whole, long, whole, long}, {ints(3), even, even}, {whole, long, whole, long, whole, long}},
		10: {{even, whole, even, even}, {ints(3), ints(3), ints(4), ints(4)}, {whole, even, even, even}},
		20: {some(6, ints(4)), some(6, even), {ints(4), even, ints(4), even, ints(4), even}},
	}
}

// The areas of the table are those that the chapters say: by the words of I2 taken one by one, and as package abi tells them.
func TestAreas(t *testing.T) {
	for want, l := range areas() {
		for _, params := range l {
			x := function(whole, params...)
			p, e := abi.Places(x, nil)
			if e != api.OK || p.Area != area(x) || p.Area != want {
				t.Errorf("%s: %d, %d, not %d", types.Text(x), p.Area, area(x), want)
			}
		}
	}
}

// O1: the Area is at most the body's own: as great, one pair of places less and one more, and far less and far more.
func TestArea(t *testing.T) {
	for own, bodies := range areas() {
		for given, called := range areas() {
			for _, mine := range bodies {
				for _, params := range called {
					for _, result := range []api.Type{whole, long} {
						if given <= own {
							isAtTail(t, function(result, mine...), function(result, params...))
						} else {
							isNotAtTail(t, greatArea, function(result, mine...), function(result, params...))
						}
					}
				}
			}
		}
	}
}

// O1: it is the Area that counts, not how many words or parameters there are.
func TestAreaNotWords(t *testing.T) {
	// Four words, of which one finds no register; six, all of which lie in registers or in two places.
	isNotAtTail(t, greatArea, function(whole, some(4, whole)...), function(whole, whole, long, whole))
	isAtTail(t, function(whole, whole, long, whole), function(whole, some(6, whole)...))
	// One place, and two: the Area is a pair for both.
	isAtTail(t, function(whole, some(5, whole)...), function(whole, some(6, whole)...))
	// Seven words on four places, since one is left out, and seven on three.
	isAtTail(t, function(whole, ints(4), ints(3)), function(whole, long, long, whole, long))
	isNotAtTail(t, greatArea, function(whole, some(6, whole)...), function(whole, long, long, whole, long))
	isNotAtTail(t, greatArea, function(whole, ints(4), ints(2)), function(whole, long, whole, whole, whole, long))
	// What is copied takes one word of the body's own Area.
	isNotAtTail(t, greatArea, function(whole, some(4, wide)...), function(whole, some(5, whole)...))
	isAtTail(t, function(whole, some(5, wide)...), function(whole, some(5, whole)...))
}

// O1: of a body of any number it is its own Type's Area, without types beyond: how many words lie beyond takes a register, and nothing that lies beyond counts.
func TestAreaOfAnyNumber(t *testing.T) {
	for _, c := range []struct {
		own  []api.Type
		area int
	}{
		{nil, 0}, {some(1, whole), 0}, {some(3, whole), 0}, {some(4, whole), 2}, {some(5, whole), 2}, {some(6, whole), 4},
		{some(1, long), 0}, {some(2, long), 2}, {some(3, long), 4}, {[]api.Type{whole, long}, 0}, {[]api.Type{long, whole}, 2}, {[]api.Type{ints(4)}, 2},
		{[]api.Type{ints(3)}, 0}, {[]api.Type{even}, 2}, {some(6, ints(4)), 22}, {some(6, even), 22}, {some(6, wide), 4}, {some(4, wide), 2},
	} {
		own := many(function(whole, c.own...))
		p, _ := abi.Places(own, nil)
		if p.Area != c.area {
			t.Error(types.Text(own), p.Area, c.area)
		}
		for given, l := range areas() {
			for _, params := range l {
				if given <= c.area {
					isAtTail(t, own, function(whole, params...))
				} else {
					isNotAtTail(t, greatArea, own, function(whole, params...))
				}
			}
		}
	}
}

// O1: all rows of up to three parameters of each sort, of the body and of the call.
func TestAllRows(t *testing.T) {
	sorts := []api.Type{whole, long, ints(3), ints(4), even, ints(5)}
	rows := [][]api.Type{nil}
	for at := 0; at < len(rows) && len(rows[at]) < 3; at++ {
		for _, sort := range sorts {
			rows = append(rows, append(rows[at][:len(rows[at]):len(rows[at])], sort))
		}
	}
	if len(rows) != 1+6+36+216 {
		t.Fatal(len(rows))
	}
	seen := map[bool]int{}
	for at, own := range rows {
		x := function(whole, own...)
		x.Many = at%3 == 0
		for _, called := range rows {
			for _, b := range ends(x, function(whole, called...), 0) {
				want := reference(b)
				tells(t, b, want...)
				seen[len(want) > 0]++
			}
		}
	}
	if seen[true] < 5000 || seen[false] < 5000 {
		t.Error("rarely one of both:", seen)
	}
}
