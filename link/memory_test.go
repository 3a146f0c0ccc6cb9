package link_test

import (
	"reflect"
	"slices"
	"strings"
	"testing"
	"unsafe"

	"scarfjoint/api"
	"scarfjoint/link"
)

// padded is a list in new memory, with something behind its length.
func padded[T any](l []T, behind ...T) []T {
	return append(slices.Clone(l), behind...)[:len(l)]
}

// paddedObjects are objects whose lists, and the list of which, have something behind their lengths.
func paddedObjects(l []api.Object) []api.Object {
	l = padded(l, objectOf(start()), api.Object{Code: []uint32{1}})
	for at, o := range l {
		l[at] = api.Object{
			Code:    padded(o.Code, word("call 0"), 0xffffffff),
			Data:    padded(o.Data, 7, -1),
			Symbols: padded(o.Symbols, variable("zz", 1).Symbol, api.Symbol{}),
			Relocs:  padded(o.Relocs, api.Reloc{At: len(o.Code)}, api.Reloc{At: -1}),
		}
		for n, s := range l[at].Symbols {
			l[at].Symbols[n].Name, l[at].Symbols[n].Sign = strings.Clone(s.Name), strings.Clone(s.Sign)
		}
	}
	return l
}

// entire are objects with what lies behind the lengths of lists, in new memory.
func entire(l []api.Object) []api.Object {
	l = slices.Clone(l[:cap(l)])
	for at, o := range l {
		l[at] = api.Object{
			Code:    slices.Clone(o.Code[:cap(o.Code)]),
			Data:    slices.Clone(o.Data[:cap(o.Data)]),
			Symbols: slices.Clone(o.Symbols[:cap(o.Symbols)]),
			Relocs:  slices.Clone(o.Relocs[:cap(o.Relocs)]),
		}
	}
	return l
}

// scribble writes to all memory of a list.
func scribble[T any](l []T, other T) {
	l = l[:cap(l)]
	for at := range l {
		l[at] = other
	}
}

func scribbleObjects(l []api.Object) {
	for _, o := range l[:cap(l)] {
		scribble(o.Code, 0xdeadbeef)
		scribble(o.Data, 99)
		scribble(o.Symbols, api.Symbol{Name: "zz", At: -1})
		scribble(o.Relocs, api.Reloc{At: -1, Symbol: -1, Add: -1})
	}
	scribble(l, api.Object{})
}

// P3: objects that are handed in are not changed, nor is what lies behind the lengths of their lists; nor is that read. What comes out is new memory, and none of its lists shares any with another one.
func TestMemory(t *testing.T) {
	d := drawer(0x853c49e6748fea9b)
	for turn := range 4000 {
		p := d.program()
		if turn%4 == 0 {
			d.spoil(p)
		}
		want := say(p.objects, p.memory)
		with := paddedObjects(p.objects)
		kept := entire(with)
		got := linked(with, p.memory)
		if !same(got, want) {
			t.Fatal("hangs on what lies behind the lengths:", told(p))
		}
		if !reflect.DeepEqual(entire(with), kept) {
			t.Fatal("changed:", told(p))
		}
		for _, r := range got.ranges {
			for _, s := range symbols(with) {
				if unsafe.StringData(r.Name) == unsafe.StringData(s.Name) {
					t.Fatal("a name is shared:", r)
				}
			}
		}
		scribbleObjects(with)
		if !same(got, want) {
			t.Fatal("hangs on what was handed in:", told(p))
		}
		scribbleAnswer(t, p, want)
	}
}

// scribbleAnswer holds that each list of an answer is no other one, and none that was handed in.
func scribbleAnswer(t *testing.T, p *program, want answer) {
	t.Helper()
	kept := entire(p.objects)
	for which := range 3 {
		image, ranges, trouble := link.Link(p.objects, p.memory)
		got := answer{image, ranges, trouble}
		switch which {
		case 0:
			scribble(image.Code, 0xdeadbeef)
			got.image.Code = want.image.Code
		case 1:
			scribble(image.Data, 99)
			got.image.Data = want.image.Data
		case 2:
			scribble(ranges, api.Range{From: -1})
			got.ranges = want.ranges
		}
		if !same(got, want) || !same(linked(p.objects, p.memory), want) || !reflect.DeepEqual(entire(p.objects), kept) {
			t.Fatal("shared:", which, told(p))
		}
	}
}
