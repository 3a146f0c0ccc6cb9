package object_test

import (
	"bytes"
	"encoding/binary"
	"math"
	"reflect"
	"testing"

	"scarfjoint/api"
	"scarfjoint/code"
	"scarfjoint/object"
	"scarfjoint/types"
)

// What chapter 17 says is written here once more.

// isSo says whether an object may be (R1).
func isSo(o api.Object) bool {
	if len(o.Code) > 6000 || len(o.Data) > 16000 || len(o.Symbols) > 400 || len(o.Relocs) > 6000 {
		return false
	}
	names := map[string]bool{}
	ends := map[int]int64{} // how far functions, and variables, come
	for _, s := range o.Symbols {
		if names[s.Name] || !types.Name(s.Name) || !isSign(s.Sign) {
			return false
		}
		names[s.Name] = true
		switch s.Kind {
		case api.SymFun, api.SymData:
			if int64(s.At) != ends[s.Kind] || s.Size < 1 || s.Size > 1<<20 {
				return false
			}
			ends[s.Kind] += int64(s.Size)
		case api.SymOutFun, api.SymOutData:
			if s.At != 0 || s.Size != 0 || s.Static {
				return false
			}
		default:
			return false
		}
		if s.Frame < 0 || s.Frame > 16000 || s.Frame > 0 && s.Kind != api.SymFun {
			return false
		}
	}
	return ends[api.SymFun] == int64(len(o.Code)) && ends[api.SymData] == int64(len(o.Data)) && areRelocs(o)
}

func isSign(s string) bool {
	for _, b := range []byte(s) {
		if b < ' ' || b > '~' {
			return false
		}
	}
	return len(s) >= 1 && len(s) <= 2000
}

func areRelocs(o api.Object) bool {
	for at, r := range o.Relocs {
		if at > 0 && r.At <= o.Relocs[at-1].At || r.At < 0 || r.At >= len(o.Code) {
			return false
		}
		i, ok := code.Decode(o.Code[r.At])
		of := i.Op == api.IMovi || i.Op == api.IJump || i.Op == api.IZero || i.Op == api.ICall
		if !ok || !of || i.Imm != 0 || r.Symbol < 0 || r.Symbol >= len(o.Symbols) || r.Add < 0 || r.Add > 6000 {
			return false
		}
	}
	return true
}

// written is an object's bytes (R2), whether it may be or not; false, if a number has none.
func written(o api.Object) ([]byte, bool) {
	var b []byte
	all := true
	number := func(n int) {
		all = all && n >= math.MinInt32 && n <= math.MaxUint32
		b = binary.BigEndian.AppendUint32(b, uint32(n))
	}
	text := func(s string) {
		number(len(s))
		b = append(b, s...)
	}
	number(len(o.Code))
	for _, w := range o.Code {
		b = binary.BigEndian.AppendUint32(b, w)
	}
	number(len(o.Data))
	for _, w := range o.Data {
		b = binary.BigEndian.AppendUint32(b, uint32(w))
	}
	number(len(o.Symbols))
	for _, s := range o.Symbols {
		text(s.Name)
		number(s.Kind)
		number(map[bool]int{true: 1}[s.Static])
		number(s.At)
		number(s.Size)
		text(s.Sign)
		number(s.Frame)
	}
	number(len(o.Relocs))
	for _, r := range o.Relocs {
		number(r.At)
		number(r.Symbol)
		number(r.Add)
	}
	return b, all
}

// parsed is the object whose bytes these are (R3), whether it may be or not; false, if there is none.
func parsed(b []byte) (o api.Object, ok bool) {
	in := bytes.NewReader(b)
	ok = true
	word := func() uint32 {
		var w uint32
		ok = binary.Read(in, binary.BigEndian, &w) == nil && ok
		return w
	}
	number := func() int { return int(word()) }
	text := func() string {
		n := number()
		if !ok || n > in.Len() {
			ok = false
			return ""
		}
		l := make([]byte, n)
		in.Read(l)
		return string(l)
	}
	for n := number(); ok && n > 0; n-- {
		o.Code = append(o.Code, word())
	}
	for n := number(); ok && n > 0; n-- {
		o.Data = append(o.Data, int32(word()))
	}
	for n := number(); ok && n > 0; n-- {
		s := api.Symbol{Name: text(), Kind: number()}
		static := number()
		ok = ok && static < 2
		s.Static, s.At, s.Size = static == 1, number(), number()
		s.Sign, s.Frame = text(), number()
		o.Symbols = append(o.Symbols, s)
	}
	for n := number(); ok && n > 0; n-- {
		o.Relocs = append(o.Relocs, api.Reloc{At: number(), Symbol: number(), Add: number()})
	}
	return o, ok && in.Len() == 0
}

// same says whether two objects are alike; an empty list may be nil or not.
func same(a, b api.Object) bool {
	x, y := whole(a), whole(b)
	return reflect.DeepEqual(x, y)
}

// whole is an object none of whose lists is nil.
func whole(o api.Object) api.Object {
	return api.Object{Code: append([]uint32{}, o.Code...), Data: append([]int32{}, o.Data...), Symbols: append([]api.Symbol{}, o.Symbols...), Relocs: append([]api.Reloc{}, o.Relocs...)}
}

// holds holds what Get answers of bytes.
func holds(t *testing.T, why string, b []byte, want api.Object, e api.Errno) {
	t.Helper()
	for range 2 {
		got, f := object.Get(b)
		if f != e || !same(got, want) {
			t.Errorf("%s: Get: %s %d, not %s %d", why, told(got), f, told(want), e)
		}
	}
}

// agrees holds all three functions, of an object, against what the chapter says.
func agrees(t *testing.T, why string, o api.Object, want bool) {
	t.Helper()
	if isSo(o) != want {
		t.Fatalf("%s: the test itself does not agree: %s", why, told(o))
	}
	for range 2 {
		if got := object.May(o); got != want {
			t.Errorf("%s: May: %v: %s", why, got, told(o))
		}
	}
	b, all := written(o)
	got, e := object.Put(o)
	if want && (e != api.OK || !bytes.Equal(got, b)) {
		t.Errorf("%s: Put: % x %d, not % x", why, got, e, b)
	}
	if !want && (e != api.ErrForm || len(got) > 0) {
		t.Errorf("%s: Put: % x %d", why, got, e)
	}
	if want {
		holds(t, why, b, o, api.OK)
	} else if all {
		refuses(t, why, b)
	}
}

// agreesOn holds Get, of bytes, against what the chapter says, and tells whether they are an object's.
func agreesOn(t *testing.T, why string, b []byte) bool {
	t.Helper()
	if o, ok := parsed(b); ok && isSo(o) {
		holds(t, why, b, o, api.OK)
		return true
	}
	refuses(t, why, b)
	return false
}
