package tail_test

import (
	"reflect"
	"slices"
	"testing"

	"scarfjoint/api"
	"scarfjoint/tail"
)

// copied is a body that shares no memory with another one.
func copied(b api.Body) api.Body {
	b.Type = copiedType(b.Type)
	b.Code = slices.Clone(b.Code)
	for at := range b.Code {
		o := &b.Code[at]
		o.D, o.S, o.Type = slices.Clone(o.D), slices.Clone(o.S), copiedType(o.Type)
	}
	return b
}

func copiedType(t api.Type) api.Type {
	t.Names, t.Parts = slices.Clone(t.Names), slices.Clone(t.Parts)
	for at := range t.Parts {
		t.Parts[at] = copiedType(t.Parts[at])
	}
	return t
}

// padded is a list in new memory, with something behind its length.
func padded[T any](l []T, behind ...T) []T {
	return append(slices.Clone(l), behind...)[:len(l)]
}

// paddedType is a type whose lists have something behind their lengths.
func paddedType(t api.Type) api.Type {
	t.Names, t.Parts = padded(t.Names, "z", "return"), padded(t.Parts, wide, api.Type{})
	for at := range t.Parts {
		t.Parts[at] = paddedType(t.Parts[at])
	}
	return t
}

// paddedBody is a body whose lists have something behind their lengths.
func paddedBody(b api.Body) api.Body {
	b.Type = paddedType(b.Type)
	b.Code = padded(b.Code, back(0), call(row(0), function(whole)), back(0), jump(-1))
	for at := range b.Code {
		o := &b.Code[at]
		o.D, o.S, o.Type = padded(o.D, 0, 1, -1), padded(o.S, 0, 1, -1), paddedType(o.Type)
	}
	return b
}

// allOf is all that lies in the memory of a body, also behind the lengths of its lists.
func allOf(b api.Body) api.Body {
	b.Type = allOfType(b.Type)
	b.Code = slices.Clone(b.Code[:cap(b.Code)])
	for at := range b.Code {
		o := &b.Code[at]
		o.D, o.S, o.Type = slices.Clone(o.D[:cap(o.D)]), slices.Clone(o.S[:cap(o.S)]), allOfType(o.Type)
	}
	return b
}

func allOfType(t api.Type) api.Type {
	t.Names, t.Parts = slices.Clone(t.Names[:cap(t.Names)]), slices.Clone(t.Parts[:cap(t.Parts)])
	for at := range t.Parts {
		t.Parts[at] = allOfType(t.Parts[at])
	}
	return t
}

// P3: what is handed in is not changed, nor is what lies behind the lengths of its lists; nor is that read.
func TestListsThatAreHandedIn(t *testing.T) {
	d := drawer(0xda942042e4dd58b5)
	for range 1500 {
		b := d.body(20, 8)
		if d.below(3) == 0 {
			d.change(&b)
		}
		want, e := tail.Of(copied(b))
		with := paddedBody(b)
		kept := allOf(with)
		got, again := tail.Of(with)
		if e != again || !slices.Equal(got, want) {
			t.Fatal("hangs on what lies behind the lengths:", text(b), got, want)
		}
		if !reflect.DeepEqual(allOf(with), kept) {
			t.Fatal("changed:", text(b))
		}
	}
}

// P3: what comes out is new memory each time: what is written there, also behind its length, is not seen in what is told next, nor in what was handed in.
func TestListsThatComeOut(t *testing.T) {
	d := drawer(0x853c49e6748fea9b)
	for range 1500 {
		b := d.body(20, 10)
		kept := copied(b)
		first, _ := tail.Of(b)
		want := slices.Clone(first)
		first = first[:cap(first)]
		for at := range first {
			first[at] = -1
		}
		again, _ := tail.Of(b)
		if !slices.Equal(again, want) || !reflect.DeepEqual(b, kept) {
			t.Fatal(text(b), want, again)
		}
		if slices.ContainsFunc(first, func(n int) bool { return n != -1 }) {
			t.Fatal("written to by another call:", text(b), first)
		}
	}
}

// P3: what is written to what was handed in is not seen in what came out.
func TestBodiesThatAreWrittenTo(t *testing.T) {
	b := good()
	l, e := tail.Of(b)
	for at := range b.Code {
		for _, registers := range [][]int{b.Code[at].D, b.Code[at].S} {
			for i := range registers {
				registers[i] = 9
			}
		}
		b.Code[at].Op = api.TPut
	}
	if e != api.OK || !slices.Equal(l, row(6, 8)) {
		t.Error("hangs on what was handed in:", l, e)
	}
	refuses(t, b)
}
