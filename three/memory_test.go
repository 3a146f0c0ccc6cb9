package three_test

import (
	"reflect"
	"slices"
	"testing"
	"unsafe"

	"scarfjoint/api"
	"scarfjoint/three"
)

// padded is a list in new memory, with something behind its length.
func padded[T any](l []T, behind ...T) []T {
	return append(slices.Clone(l), behind...)[:len(l)]
}

// paddedType is a type whose lists have something behind their lengths, at each depth.
func paddedType(t api.Type) api.Type {
	parts := padded(t.Parts, whole, api.Type{Kind: 9})
	for at := range parts {
		parts[at] = paddedType(parts[at])
	}
	t.Parts, t.Names = parts, padded(t.Names, "int", "")
	return t
}

// paddedUnits is units all of whose lists have something behind their lengths that may not be, or that is given already.
func paddedUnits(l []api.Made) []api.Made {
	l = padded(l, made(plain()), made(plain()), api.Made{}, api.Made{}, made(api.Body{}))
	for at, m := range l {
		m.Bodies = padded(m.Bodies, plain(), api.Body{}, body("a", function(whole), 1, back(0)))
		m.Globals = padded(m.Globals, api.Global{Name: "main", Type: whole}, api.Global{})
		m.Outsides = padded(m.Outsides, api.Outside{Name: "main", Type: whole}, api.Outside{})
		for i := range m.Bodies {
			b := &m.Bodies[i]
			b.Type = paddedType(b.Type)
			b.Code = padded(b.Code, put(0), back(0), jump(-1))
			for n := range b.Code {
				o := &b.Code[n]
				o.D, o.S, o.Type = padded(o.D, 0, -1, 9), padded(o.S, 0, -1, 9), paddedType(o.Type)
			}
		}
		for i := range m.Globals {
			m.Globals[i].Type = paddedType(m.Globals[i].Type)
		}
		for i := range m.Outsides {
			m.Outsides[i].Type = paddedType(m.Outsides[i].Type)
		}
		l[at] = m
	}
	return l
}

// allOf is all that lies in the memory of units, also behind the lengths of their lists.
func allOf(l []api.Made) []api.Made {
	l = slices.Clone(l[:cap(l)])
	for at, m := range l {
		m.Bodies, m.Globals, m.Outsides = slices.Clone(m.Bodies[:cap(m.Bodies)]), slices.Clone(m.Globals[:cap(m.Globals)]), slices.Clone(m.Outsides[:cap(m.Outsides)])
		for i := range m.Bodies {
			b := &m.Bodies[i]
			b.Type = allOfType(b.Type)
			b.Code = slices.Clone(b.Code[:cap(b.Code)])
			for n := range b.Code {
				o := &b.Code[n]
				o.D, o.S, o.Type = slices.Clone(o.D[:cap(o.D)]), slices.Clone(o.S[:cap(o.S)]), allOfType(o.Type)
			}
		}
		for i := range m.Globals {
			m.Globals[i].Type = allOfType(m.Globals[i].Type)
		}
		for i := range m.Outsides {
			m.Outsides[i].Type = allOfType(m.Outsides[i].Type)
		}
		l[at] = m
	}
	return l
}

func allOfType(t api.Type) api.Type {
	t.Names, t.Parts = slices.Clone(t.Names[:cap(t.Names)]), slices.Clone(t.Parts[:cap(t.Parts)])
	for at := range t.Parts {
		t.Parts[at] = allOfType(t.Parts[at])
	}
	return t
}

// P3: what is handed in is not changed, nor is what lies behind the lengths of its lists; nor is that read.
func TestListsThatAreHandedIn(t *testing.T) {
	d := drawer(0xda942042e4dd58b5)
	for range 1000 {
		l := d.program()
		if d.below(2) == 0 {
			l = d.spoilt()
		}
		want, trouble := three.Run(l, 300)
		with := paddedUnits(l)
		kept := allOf(with)
		got, same := three.Run(with, 300)
		if same != trouble || three.Check(with) != trouble || !sameShown(got, want) {
			t.Fatal("hangs on what lies behind the lengths:", text(l...), got, same, want, trouble)
		}
		for at, m := range with {
			if three.Fits(m) != three.Fits(l[at]) {
				t.Fatal("fits otherwise:", text(m))
			}
			for i, b := range m.Bodies {
				if three.May(b) != three.May(l[at].Bodies[i]) {
					t.Fatal("may be otherwise:", text(made(b)))
				}
			}
		}
		if !reflect.DeepEqual(allOf(with), kept) {
			t.Fatal("changed:", text(l...))
		}
	}
}

// room tells where the memory of a list begins and ends, with what lies behind its length.
func room(l []int32) [2]uintptr {
	at := uintptr(unsafe.Pointer(unsafe.SliceData(l)))
	return [2]uintptr{at, at + uintptr(cap(l))*unsafe.Sizeof(int32(0))}
}

// P3: what comes out is new memory each time, and hangs on the arguments alone.
func TestListsThatComeOut(t *testing.T) {
	d := drawer(0x853c49e6748fea9b)
	for range 1000 {
		l := d.program()
		a, _ := three.Run(l, 300)
		b, _ := three.Run(l, 300)
		if !sameShown(a, b) {
			t.Fatal("told otherwise the second time:", text(l...), a, b)
		}
		x, y := room(a.Out), room(b.Out)
		if x[0] < y[1] && y[0] < x[1] {
			t.Fatal("lists that share memory:", x, y)
		}
		for at := range b.Out {
			b.Out[at]++
		}
		b.Out = append(b.Out, 1, 2, 3)
		if c, _ := three.Run(l, 300); !sameShown(a, c) {
			t.Fatal("hangs on what was told:", text(l...), a, c)
		}
	}
}

// P3: what was handed in is not kept: what is told next hangs on what is handed in next.
func TestNothingIsKept(t *testing.T) {
	l := []api.Made{made(mainOf(constant(0, 7), put(0), call(row(0), "f", function(whole)), back(0)), one("f", 3))}
	ends(t, l, api.Shown{End: api.RunExit, Value: 3, Steps: 6, Out: []int32{7}})
	s, _ := three.Run(l, 9)
	l[0].Bodies[0].Code[0].N = 8
	l[0].Bodies[1].Code[0].N = 4
	if s.Value != 3 || s.Out[0] != 7 {
		t.Error(s)
	}
	ends(t, l, api.Shown{End: api.RunExit, Value: 4, Steps: 6, Out: []int32{8}})
	l[0].Bodies[1].Name = "g"
	troubles(t, l, api.Trouble{Code: api.ErrName})
	l[0].Bodies[0].Code[2].Name = "g"
	ends(t, l, api.Shown{End: api.RunExit, Value: 4, Steps: 6, Out: []int32{8}})
}
