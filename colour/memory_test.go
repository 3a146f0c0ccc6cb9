package colour_test

import (
	"reflect"
	"slices"
	"testing"

	"scarfjoint/api"
	"scarfjoint/colour"
)

// copied is a body that shares no memory with another one.
func copied(b api.Body) api.Body {
	b.Type = copiedType(b.Type)
	b.Code = slices.Clone(b.Code)
	for at := range b.Code {
		o := &b.Code[at]
		o.D, o.S, o.Type = slices.Clone(o.D), slices.Clone(o.S), copiedType(o.Type)
	}
	return b
}

func copiedType(t api.Type) api.Type {
	t.Names, t.Parts = slices.Clone(t.Names), slices.Clone(t.Parts)
	for at := range t.Parts {
		t.Parts[at] = copiedType(t.Parts[at])
	}
	return t
}

// padded is a list in new memory, with something behind its length.
func padded[T any](l []T, behind ...T) []T {
	return append(slices.Clone(l), behind...)[:len(l)]
}

// paddedBody is a body whose lists of orders and registers have something behind their lengths.
func paddedBody(b api.Body) api.Body {
	b.Code = padded(b.Code, put(0), back(0), jump(-1), sum(0, 1, 2))
	for at := range b.Code {
		o := &b.Code[at]
		o.D, o.S = padded(o.D, 0, 1, -1), padded(o.S, 0, 1, -1)
	}
	return b
}

// allOf is all that lies in the memory of a body's orders and registers, also behind the lengths of their lists.
func allOf(b api.Body) api.Body {
	b.Code = slices.Clone(b.Code[:cap(b.Code)])
	for at := range b.Code {
		o := &b.Code[at]
		o.D, o.S = o.D[:cap(o.D)], o.S[:cap(o.S)]
	}
	return copied(b)
}

// P3: what is handed in is not changed, nor is what lies behind the lengths of its lists; nor is that read.
func TestListsThatAreHandedIn(t *testing.T) {
	d := drawer(0xda942042e4dd58b5)
	for range 1500 {
		b := d.body(20, 30)
		if d.below(3) == 0 {
			d.change(&b)
		}
		want, e := colour.Of(b)
		with := paddedBody(b)
		kept := allOf(with)
		got, again := colour.Of(with)
		if e != again || told(got) != told(want) {
			t.Fatal("hangs on what lies behind the lengths:", text(b), told(got), told(want))
		}
		if !reflect.DeepEqual(allOf(with), kept) {
			t.Fatal("changed:", text(b))
		}
	}
}

// P3: what comes out is new memory each time: what is written there is not seen in what is told next, nor in what was handed in.
func TestListsThatComeOut(t *testing.T) {
	d := drawer(0x853c49e6748fea9b)
	for range 500 {
		b := d.body(20, 40)
		kept := copied(b)
		first, _ := colour.Of(b)
		want := told(first)
		for at := range first {
			first[at] = api.Loc{Stack: true, N: -1}
		}
		again, _ := colour.Of(b)
		if told(again) != want || !reflect.DeepEqual(b, kept) {
			t.Fatal(text(b), want, told(again))
		}
		for register, x := range first {
			if x != (api.Loc{Stack: true, N: -1}) {
				t.Fatal("written to by another call:", text(b), register)
			}
		}
	}
}

// P3: what is written to what was handed in is not seen in what came out.
func TestBodiesThatAreWrittenTo(t *testing.T) {
	b := plain(constant(0), constant(1), sum(2, 0, 1), call(row(3), function(whole)), sum(2, 2, 3), back(2))
	l := lies(t, b)
	want := told(l)
	for at := range b.Code {
		for _, registers := range [][]int{b.Code[at].D, b.Code[at].S} {
			for i := range registers {
				registers[i] = 9
			}
		}
		b.Code[at].Op = api.TPut
	}
	if told(l) != want {
		t.Error("hangs on what was handed in:", told(l), want)
	}
	refuses(t, b)
}

// The language's rule 5: what is told hangs on the body alone, not on the order in which a map is gone through.
func TestToldAgain(t *testing.T) {
	d := drawer(0x9e3779b97f4a7c15)
	for range 300 {
		b := d.body(30, 60)
		first, _ := colour.Of(b)
		for range 3 {
			if again, _ := colour.Of(copied(b)); !slices.Equal(first, again) {
				t.Fatal(text(b), told(first), told(again))
			}
		}
	}
}
