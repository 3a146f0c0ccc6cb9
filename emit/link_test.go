package emit_test

import (
	"slices"
	"testing"

	"scarfjoint/api"
	"scarfjoint/code"
	"scarfjoint/link"
	"scarfjoint/machine"
	"scarfjoint/types"
)

// What chapters 17 and 18 say is written here once more, as far as objects that emit makes need it.

// amissObject tells why an object may not be (R1); "" of one that may.
func amissObject(o api.Object) string {
	if len(o.Code) > api.MaxCode || len(o.Data) > api.MaxMemory || len(o.Symbols) > 400 || len(o.Relocs) > api.MaxCode {
		return "too many"
	}
	seen := map[string]bool{}
	ends := map[int]int{} // how far functions, and variables, come
	for _, s := range o.Symbols {
		if !types.Name(s.Name) || seen[s.Name] {
			return "name " + s.Name
		}
		seen[s.Name] = true
		if why := amissSymbol(s, ends[s.Kind]); why != "" {
			return why + " of " + s.Name
		}
		ends[s.Kind] += s.Size
	}
	if ends[api.SymFun] != len(o.Code) || ends[api.SymData] != len(o.Data) {
		return "what no symbol has"
	}
	return amissRelocs(o)
}

// amissSymbol tells what is wrong with a symbol that is to lie from a place on.
func amissSymbol(s api.Symbol, at int) string {
	if len(s.Sign) < 1 || len(s.Sign) > 2000 {
		return "sign"
	}
	for _, b := range []byte(s.Sign) {
		if b < 32 || b > 126 {
			return "sign"
		}
	}
	switch s.Kind {
	case api.SymFun, api.SymData:
		if s.At != at || s.Size < 1 {
			return "place"
		}
		if s.Frame < 0 || s.Frame > api.MaxMemory || s.Kind == api.SymData && s.Frame != 0 {
			return "frame"
		}
	case api.SymOutFun, api.SymOutData:
		if s.At != 0 || s.Size != 0 || s.Frame != 0 || s.Static {
			return "place"
		}
	default:
		return "kind"
	}
	return ""
}

func amissRelocs(o api.Object) string {
	last := -1
	for _, r := range o.Relocs {
		if r.At <= last || r.At >= len(o.Code) || r.Symbol < 0 || r.Symbol >= len(o.Symbols) || r.Add < 0 || r.Add > api.MaxCode {
			return "reloc"
		}
		last = r.At
		i, ok := code.Decode(o.Code[r.At])
		if !ok || i.Imm != 0 {
			return "instruction of a reloc"
		}
		switch i.Op {
		case api.IMovi, api.IJump, api.IZero, api.ICall:
		default:
			return "instruction of a reloc"
		}
	}
	return ""
}

// place is where a symbol's thing lies in an image: its object, and its symbol there.
type place struct{ unit, symbol int }

// open finds the things that are not static.
func open(l []api.Object) map[string]place {
	found := map[string]place{}
	for unit, o := range l {
		for at, s := range o.Symbols {
			if (s.Kind == api.SymFun || s.Kind == api.SymData) && !s.Static {
				found[s.Name] = place{unit, at}
			}
		}
	}
	return found
}

// linked is the image that Link makes of objects, and the ranges of its functions; false, if it may not be (C1). It is held against what is put together here.
func linked(t *testing.T, l []api.Object, memory int) (api.Image, []api.Range, bool) {
	t.Helper()
	image, ranges, ok := together(t, l, memory)
	got, gotRanges, trouble := link.Link(l, memory)
	if !ok {
		if trouble != (api.Trouble{Code: api.ErrSize, At: 1}) {
			t.Fatal("an image that may not be: ", trouble)
		}
		return api.Image{}, nil, false
	}
	if trouble != (api.Trouble{}) || !slices.Equal(got.Code, image.Code) || !slices.Equal(got.Data, image.Data) || got.Memory != memory || !slices.Equal(gotRanges, ranges) {
		t.Fatal("another image: ", trouble, told(got), told(image))
	}
	return got, gotRanges, true
}

// together makes an image of objects (S2), and the ranges of its functions (S3); false, if it may not be (C1).
func together(t *testing.T, l []api.Object, memory int) (api.Image, []api.Range, bool) {
	t.Helper()
	image := api.Image{Code: []uint32{0, 0}, Memory: memory}
	var ranges []api.Range
	var codeAt, dataAt []int
	words := 2
	for unit, o := range l {
		codeAt, dataAt = append(codeAt, len(image.Code)), append(dataAt, len(image.Data))
		for _, s := range o.Symbols {
			if s.Kind == api.SymFun {
				ranges = append(ranges, api.Range{Name: s.Name, Unit: unit, From: words + s.At, To: words + s.At + s.Size, Frame: s.Frame})
			}
		}
		words += len(o.Code)
		image.Code, image.Data = append(image.Code, o.Code...), append(image.Data, o.Data...)
	}
	found := open(l)
	addressOf := func(p place) int {
		s := l[p.unit].Symbols[p.symbol]
		if s.Kind == api.SymOutFun || s.Kind == api.SymOutData {
			at, ok := found[s.Name]
			other := l[at.unit].Symbols[at.symbol]
			if !ok || other.Kind != s.Kind-2 || other.Sign != s.Sign {
				t.Fatal("no such thing: ", s)
			}
			p, s = at, other
		}
		if s.Kind == api.SymFun {
			return codeAt[p.unit] + s.At
		}
		return words + dataAt[p.unit] + s.At
	}
	for unit, o := range l {
		for _, r := range o.Relocs {
			i, _ := code.Decode(o.Code[r.At])
			i.Imm = addressOf(place{unit, r.Symbol}) + r.Add
			image.Code[codeAt[unit]+r.At] = encoded(t, i)
		}
	}
	image.Code[0] = encoded(t, api.Instr{Op: api.ICall, Imm: addressOf(found["main"])})
	image.Code[1] = encoded(t, api.Instr{Op: api.IExit})
	return image, ranges, machine.Check(image) == api.OK
}

func encoded(t *testing.T, i api.Instr) uint32 {
	t.Helper()
	bits, e := code.Encode(i)
	if e != api.OK {
		t.Fatal(i, e)
	}
	return bits
}
