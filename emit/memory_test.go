package emit_test

import (
	"reflect"
	"slices"
	"testing"
	"unsafe"

	"scarfjoint/api"
	"scarfjoint/emit"
)

// copied is a unit that shares no memory with another one.
func copied(m api.Made) api.Made {
	m.Globals, m.Outsides, m.Bodies = slices.Clone(m.Globals), slices.Clone(m.Outsides), slices.Clone(m.Bodies)
	for at := range m.Globals {
		m.Globals[at].Type = copiedType(m.Globals[at].Type)
	}
	for at := range m.Outsides {
		m.Outsides[at].Type = copiedType(m.Outsides[at].Type)
	}
	for at := range m.Bodies {
		b := &m.Bodies[at]
		b.Type, b.Code = copiedType(b.Type), slices.Clone(b.Code)
		for i := range b.Code {
			o := &b.Code[i]
			o.D, o.S, o.Type = slices.Clone(o.D), slices.Clone(o.S), copiedType(o.Type)
		}
	}
	return m
}

func copiedType(t api.Type) api.Type {
	t.Names, t.Parts = slices.Clone(t.Names), slices.Clone(t.Parts)
	for at := range t.Parts {
		t.Parts[at] = copiedType(t.Parts[at])
	}
	return t
}

// padded is a list in new memory, with something behind its length.
func padded[T any](l []T, behind ...T) []T {
	return append(slices.Clone(l), behind...)[:len(l)]
}

// paddedType is a type whose lists have something behind their lengths.
func paddedType(t api.Type) api.Type {
	t.Names, t.Parts = padded(t.Names, "z", "return"), padded(t.Parts, wide, api.Type{})
	for at := range t.Parts {
		t.Parts[at] = paddedType(t.Parts[at])
	}
	return t
}

// paddedUnit is a unit whose lists have something behind their lengths.
func paddedUnit(m api.Made) api.Made {
	m = copied(m)
	m.Bodies = padded(m.Bodies, body("zz", function(whole), 1, back(0)), api.Body{})
	m.Globals = padded(m.Globals, api.Global{Name: "zy", Type: long}, api.Global{})
	m.Outsides = padded(m.Outsides, api.Outside{Name: "zx", Type: whole}, api.Outside{})
	for at := range m.Bodies {
		b := &m.Bodies[at]
		b.Type = paddedType(b.Type)
		b.Code = padded(b.Code, back(0), call(row(0), "f", function(whole)), back(0), jump(-1))
		for i := range b.Code {
			o := &b.Code[i]
			o.D, o.S, o.Type = padded(o.D, 0, 1, -1), padded(o.S, 0, 1, -1), paddedType(o.Type)
		}
	}
	return m
}

// allOf writes all that lies in the memory of something, also behind the lengths of its lists.
func allOf(v reflect.Value, l []any) []any {
	switch v.Kind() {
	case reflect.Slice:
		whole := v.Slice3(0, v.Cap(), v.Cap())
		for at := range whole.Len() {
			l = allOf(whole.Index(at), l)
		}
		return append(l, v.Len())
	case reflect.Struct:
		for at := range v.NumField() {
			l = allOf(v.Field(at), l)
		}
		return l
	}
	return append(l, v.Interface())
}

// P3: what is handed in is not changed, nor is what lies behind the lengths of its lists; nor is that read. Two calls with the same unit answer the same.
func TestUnitsThatAreHandedIn(t *testing.T) {
	t.Parallel()
	d := drawer(0xda942042e4dd58b5)
	for range 400 {
		for _, m := range append(d.program(8), good()) {
			want, e := emit.Make(copied(m))
			with := paddedUnit(m)
			kept := allOf(reflect.ValueOf(with), nil)
			got, again := emit.Make(with)
			if e != again || !reflect.DeepEqual(got, want) {
				t.Fatal("hangs on what lies behind the lengths:", text(m))
			}
			if !slices.Equal(allOf(reflect.ValueOf(with), nil), kept) {
				t.Fatal("changed:", text(m))
			}
		}
	}
}

// P3: what comes out is new memory each time: what is written there, also behind the lengths, is not seen in what comes out next, nor in what was handed in.
func TestObjectsThatComeOut(t *testing.T) {
	d := drawer(0x853c49e6748fea9b)
	for range 200 {
		for _, m := range append(d.program(8), good()) {
			kept := copied(m)
			want, _ := emit.Make(m)
			o, _ := emit.Make(m)
			scribble(o)
			if again, e := emit.Make(m); e != api.OK || !reflect.DeepEqual(again, want) {
				t.Fatal("shared:", text(m))
			}
			if !reflect.DeepEqual(m, kept) {
				t.Fatal("shared with what was handed in:", text(m))
			}
		}
	}
}

// scribble writes to all memory of an object.
func scribble(o api.Object) {
	for at := range o.Code[:cap(o.Code)] {
		o.Code[:cap(o.Code)][at] = 0xffffffff
	}
	for at := range o.Data[:cap(o.Data)] {
		o.Data[:cap(o.Data)][at] = -1
	}
	for at := range o.Symbols[:cap(o.Symbols)] {
		o.Symbols[:cap(o.Symbols)][at] = api.Symbol{Name: "zz", Kind: 9, At: -1}
	}
	for at := range o.Relocs[:cap(o.Relocs)] {
		o.Relocs[:cap(o.Relocs)][at] = api.Reloc{At: -1, Symbol: -1, Add: -1}
	}
}

// P3: what is written to a unit is not seen in the object that was made of it; no name of it lies in the unit's memory.
func TestUnitsThatAreWrittenTo(t *testing.T) {
	m := good()
	want := object(t, good())
	o := object(t, m)
	for at := range m.Bodies {
		m.Bodies[at].Name, m.Bodies[at].Static = "zz", true
		m.Bodies[at].Type.Parts[0].Kind = 9
		for i := range m.Bodies[at].Code {
			m.Bodies[at].Code[i] = api.Three{}
		}
	}
	m.Globals[0], m.Outsides[0] = api.Global{}, api.Outside{}
	if !reflect.DeepEqual(o, want) {
		t.Error("hangs on what was handed in:", o)
	}
	given := good()
	for at, s := range object(t, given).Symbols[:len(given.Bodies)] {
		if unsafe.StringData(s.Name) == unsafe.StringData(given.Bodies[at].Name) {
			t.Error("shares a name:", s.Name)
		}
	}
}
