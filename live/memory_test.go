package live_test

import (
	"reflect"
	"slices"
	"testing"
	"unsafe"

	"scarfjoint/api"
	"scarfjoint/live"
)

// copied is a body that shares no memory with another one.
func copied(b api.Body) api.Body {
	b.Type = copiedType(b.Type)
	b.Code = slices.Clone(b.Code)
	for at := range b.Code {
		o := &b.Code[at]
		o.D, o.S, o.Type = slices.Clone(o.D), slices.Clone(o.S), copiedType(o.Type)
	}
	return b
}

func copiedType(t api.Type) api.Type {
	t.Names, t.Parts = slices.Clone(t.Names), slices.Clone(t.Parts)
	for at := range t.Parts {
		t.Parts[at] = copiedType(t.Parts[at])
	}
	return t
}

// padded is a list in new memory, with something behind its length.
func padded[T any](l []T, behind ...T) []T {
	return append(slices.Clone(l), behind...)[:len(l)]
}

// paddedBody is a body whose lists of orders and registers have something behind their lengths.
func paddedBody(b api.Body) api.Body {
	b.Code = padded(b.Code, put(0), back(0), jump(-1), sum(0, 1, 2))
	for at := range b.Code {
		o := &b.Code[at]
		o.D, o.S = padded(o.D, 0, 1, -1), padded(o.S, 0, 1, -1)
	}
	return b
}

// allOf is all that lies in the memory of a body's orders and registers, also behind the lengths of their lists.
func allOf(b api.Body) api.Body {
	b.Code = slices.Clone(b.Code[:cap(b.Code)])
	for at := range b.Code {
		o := &b.Code[at]
		o.D, o.S = o.D[:cap(o.D)], o.S[:cap(o.S)]
	}
	return copied(b)
}

// P3: what is handed in is not changed, nor is what lies behind the lengths of its lists; nor is that read.
func TestListsThatAreHandedIn(t *testing.T) {
	d := drawer(0xda942042e4dd58b5)
	for range 1500 {
		b := d.body(8, 20)
		if d.below(3) == 0 {
			d.change(&b)
		}
		want, e := live.Of(b)
		with := paddedBody(b)
		kept := allOf(with)
		got, again := live.Of(with)
		if e != again || told(got) != told(want) {
			t.Fatal("hangs on what lies behind the lengths:", text(b), told(got), told(want))
		}
		if !reflect.DeepEqual(allOf(with), kept) {
			t.Fatal("changed:", text(b))
		}
	}
}

// room is where a list's memory begins and ends, with what lies behind its length.
type room struct{ from, to uintptr }

// rooms finds the memory of lists of registers.
func rooms(l ...[]int) []room {
	var all []room
	for _, registers := range l {
		if cap(registers) > 0 {
			at := uintptr(unsafe.Pointer(unsafe.SliceData(registers)))
			all = append(all, room{at, at + uintptr(cap(registers))*unsafe.Sizeof(0)})
		}
	}
	return all
}

// P3: what comes out is new memory: no two lists of it share any, nor do they with what was handed in, or with what came out of another call.
func TestListsThatComeOut(t *testing.T) {
	d := drawer(0x853c49e6748fea9b)
	for range 500 {
		b := d.body(8, 40)
		first, _ := live.Of(b)
		again, _ := live.Of(b)
		all := append(rooms(first...), rooms(again...)...)
		for _, o := range b.Code {
			all = append(all, rooms(o.D, o.S)...)
		}
		slices.SortFunc(all, func(a, b room) int { return int(a.from) - int(b.from) })
		for at := 1; at < len(all); at++ {
			if all[at].from < all[at-1].to {
				t.Fatal("two lists share memory:", text(b))
			}
		}
		if unsafe.SliceData(first) == unsafe.SliceData(again) {
			t.Fatal("the same list twice:", text(b))
		}
	}
}

// P3: what is written to either side afterwards is not seen on the other one, nor in what is told next.
func TestListsThatAreWrittenTo(t *testing.T) {
	b := plain(zero(1, 0), sum(2, 3, 4), zero(2, 1), back(5))
	const want = "1 3 4 5; 3 4 5; 2 3 4 5; 5"
	lives(t, b, want)
	kept := copied(b)
	l, _ := live.Of(b)
	for at := range b.Code {
		for i := range b.Code[at].S {
			b.Code[at].S[i] = 9
		}
	}
	if told(l) != want {
		t.Error("hangs on what was handed in:", told(l))
	}
	b = copied(kept)
	for at := range l {
		for i := range l[at] {
			l[at][i] = 8
		}
		l[at] = append(l[at], 7, 7)
	}
	if !reflect.DeepEqual(b, kept) {
		t.Error("changed:", text(b))
	}
	lives(t, b, want)
	b.Code[0] = constant(3)
	lives(t, b, "4 5; 3 4 5; 2 3 4 5; 5")
}
