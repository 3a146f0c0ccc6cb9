package abi_test

import (
	"reflect"
	"slices"
	"testing"
	"unsafe"

	"scarfjoint/abi"
	"scarfjoint/api"
)

// P3: a type and a list that are handed in are neither changed nor kept, and what lies behind their lengths is not read.
func TestListsThatAreHandedIn(t *testing.T) {
	parts := []api.Type{whole, long, structure(whole, long), whole, {Kind: 9}, structure()}
	beyond := []api.Type{long, whole, {Kind: 9}, structure(long)}
	names := []string{"a", "b", "int"}
	parts[2].Names = names[:2]
	x := api.Type{Kind: api.TFn, Parts: parts[:4], Many: true}
	kept, keptBeyond := slices.Clone(parts), slices.Clone(beyond)
	p, e := abi.Places(x, beyond[:2])
	if e != api.OK || shown(p) != "(r1, r2 r3, s0 s1 s2 s3) result -1 count 0 results [0] area 8 extra 4" {
		t.Error(e, shown(p))
	}
	if !reflect.DeepEqual(parts, kept) || !reflect.DeepEqual(beyond, keptBeyond) || !slices.Equal(names, []string{"a", "b", "int"}) {
		t.Error("changed:", parts, beyond, names)
	}
	before := shown(p)
	parts[0], parts[3], beyond[0] = long, ints(3), whole
	if shown(p) != before {
		t.Error("what was told hangs on what was handed in:", shown(p))
	}
	// What is told next hangs on what is handed in next.
	p, e = abi.Places(api.Type{Kind: api.TFn, Parts: parts[:2], Many: true}, beyond[:1])
	if e != api.OK || shown(p) != "(r2 r3) result -1 count 0 results [0 1] area 2 extra 0" {
		t.Error(e, shown(p))
	}
}

// room tells where the memory of a list begins and ends, with what lies behind its length.
func room[T any](l []T) [2]uintptr {
	from := uintptr(unsafe.Pointer(unsafe.SliceData(l)))
	return [2]uintptr{from, from + uintptr(cap(l))*unsafe.Sizeof(*new(T))}
}

// rooms gives the memory of all lists of what was told.
func rooms(p api.Places) [][2]uintptr {
	l := [][2]uintptr{room(p.Params), room(p.Copied), room(p.Results)}
	for _, param := range p.Params {
		l = append(l, room(param))
	}
	return l
}

// P3: no two lists of what comes out share memory, of one call or of two, nor with what was handed in.
func TestListsThatComeOut(t *testing.T) {
	d := drawer(0x853c49e6748fea9b)
	for range 2000 {
		x, beyond := d.call()
		p, e := abi.Places(x, beyond)
		q, again := abi.Places(x, beyond)
		if e != again || !reflect.DeepEqual(p, q) {
			t.Fatal("told otherwise the second time:", e, again, shown(p), shown(q))
		}
		l := slices.Concat(rooms(p), rooms(q), [][2]uintptr{room(x.Parts), room(beyond)})
		for at, a := range l {
			for _, b := range l[:at] {
				if a[0] < b[1] && b[0] < a[1] {
					t.Fatalf("lists that share memory: %v", l)
				}
			}
		}
	}
}

// P3: what is done to lists that came out is not seen in others, nor in what is told next.
func TestListsThatAreWrittenTo(t *testing.T) {
	x := many(function(whole, ints(3), long, ints(5), long))
	p, _ := abi.Places(x, nil)
	want := "(r1, r2 r3 s0, s2 s3, *s4) result -1 count 0 results [0 1] area 6 extra 6"
	if shown(p) != want {
		t.Error(shown(p))
	}
	for at, param := range p.Params {
		_ = append(param[:1], api.Loc{N: 71}, api.Loc{N: 72}, api.Loc{N: 73}, api.Loc{N: 74})
		param[0].N = 70 + at
	}
	for at := range p.Results {
		p.Results[at] = 75
	}
	if q, _ := abi.Places(x, nil); shown(q) != want {
		t.Error(shown(q))
	}
}
