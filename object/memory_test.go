package object_test

import (
	"bytes"
	"slices"
	"testing"

	"scarfjoint/api"
	"scarfjoint/object"
)

// padded is a list in new memory, with something behind its length.
func padded[T any](l []T, behind ...T) []T {
	return append(slices.Clone(l), behind...)[:len(l)]
}

// paddedObject is an object whose lists have something behind their lengths.
func paddedObject(o api.Object) api.Object {
	return api.Object{
		Code:    padded(o.Code, calls(), 0xffffffff),
		Data:    padded(o.Data, 7, -1),
		Symbols: padded(o.Symbols, fun("zz", len(o.Code), 1), api.Symbol{}),
		Relocs:  padded(o.Relocs, api.Reloc{At: len(o.Code)}, api.Reloc{At: -1}),
	}
}

// all is an object with what lies behind the lengths of its lists.
func all(o api.Object) api.Object {
	return api.Object{Code: o.Code[:cap(o.Code)], Data: o.Data[:cap(o.Data)], Symbols: o.Symbols[:cap(o.Symbols)], Relocs: o.Relocs[:cap(o.Relocs)]}
}

// scribble writes to all memory of an object.
func scribble(o api.Object) {
	o = all(o)
	for at := range o.Code {
		o.Code[at] = ^o.Code[at]
	}
	for at := range o.Data {
		o.Data[at] = ^o.Data[at]
	}
	for at := range o.Symbols {
		o.Symbols[at] = api.Symbol{Name: "zz", Kind: 9, At: -1}
	}
	for at := range o.Relocs {
		o.Relocs[at] = api.Reloc{At: -1, Symbol: -1, Add: -1}
	}
}

// P3: an object that is handed in is not changed, nor is what lies behind the lengths of its lists; nor is that read. Its bytes are new memory.
func TestObjectsHandedIn(t *testing.T) {
	d := drawer(0x853c49e6748fea9b)
	for turn := range 2000 {
		o := d.object()
		if turn%4 == 0 {
			d.spoil(&o)
		}
		want, _ := object.Put(o)
		with := paddedObject(o)
		kept := whole(all(with))
		may := object.May(with)
		got, e := object.Put(with)
		if may != isSo(o) || may != (e == api.OK) || !bytes.Equal(got, want) {
			t.Fatal("hangs on what lies behind the lengths:", told(o))
		}
		if !same(all(with), kept) {
			t.Fatal("changed:", told(o))
		}
		for at := range got[:cap(got)] {
			got[:cap(got)][at] ^= 255
		}
		if again, _ := object.Put(with); !bytes.Equal(again, want) || !same(all(with), kept) {
			t.Fatal("shared:", told(o))
		}
		again, _ := object.Put(with)
		scribble(with)
		if !bytes.Equal(again, want) {
			t.Fatal("hangs on what was handed in:", told(o))
		}
	}
}

// P3: bytes that are handed in are not changed, nor are those behind their length; nor are these read. What comes out is new memory.
func TestBytesHandedIn(t *testing.T) {
	d := drawer(0xc2b2ae3d27d4eb4f)
	for range 2000 {
		o := d.object()
		b, _ := object.Put(o)
		for _, n := range []int{len(b), len(b) - 1} {
			with := padded(b[:n], b[n:]...)
			with = padded(with, 0, 0, 0, 0, 1, 255)
			kept := slices.Clone(with[:cap(with)])
			got, e := object.Get(with)
			if (e == api.OK) != (n == len(b)) || e == api.OK && !same(got, o) {
				t.Fatal("hangs on what lies behind the length:", told(o))
			}
			if !bytes.Equal(with[:cap(with)], kept) {
				t.Fatal("changed:", told(o))
			}
			for at := range with[:cap(with)] {
				with[:cap(with)][at] ^= 255
			}
			if e == api.OK && !same(got, o) {
				t.Fatal("shared:", told(o))
			}
		}
		one, _ := object.Get(b)
		scribble(one)
		if again, e := object.Get(b); e != api.OK || !same(again, o) {
			t.Fatal("shared:", told(o))
		}
	}
}
