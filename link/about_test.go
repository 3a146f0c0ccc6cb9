package link

import (
	"math"
	"slices"
	"testing"

	"scarfjoint/api"
	"scarfjoint/code"
)

// No image that may be is so great that Link comes to an Imm that may not be: what it would do there is held within the package.

// mostOf is what the Imm of an instruction may be at most.
func mostOf(op int) int {
	if op == api.IMovi {
		return 32767
	}
	return 65535
}

// S1, S2: what the Imm of a reloc's instruction may be, and one more.
func TestAbout(t *testing.T) {
	for _, op := range []int{api.IMovi, api.IZero, api.IJump, api.ICall} {
		for a := range 16 {
			if a > 0 && (op == api.IJump || op == api.ICall) {
				continue
			}
			bits := uint32(op)<<24 | uint32(a)<<20
			for _, n := range []int{0, 1, 2, 6000, 21983, 32766, 32767, 32768, 65534, 65535, 65536, 65537, 1 << 31, 1 << 32, math.MaxInt} {
				got, ok := about(bits, n)
				if ok != (n <= mostOf(op)) {
					t.Error(op, a, n, ok)
				}
				if !ok {
					continue
				}
				if i, is := code.Decode(got); got != bits|uint32(n) || !is || i.Imm != n {
					t.Errorf("%d: %x of %x", n, got, bits)
				}
			}
		}
	}
}

// S1: the address and Add together, just what the Imm may be and one more, of the first reloc and of later ones, of the first object and of the second one.
func TestTooFar(t *testing.T) {
	for _, op := range []int{api.IMovi, api.IZero, api.IJump, api.ICall} {
		for _, added := range []int{0, 1, 6000} {
			for which := range 4 {
				for _, more := range []int{0, 1} {
					k := apart(op, mostOf(op)-added)
					k.objects[which/2].Relocs[which%2] = api.Reloc{At: which % 2, Symbol: 1, Add: added + more}
					want := api.Trouble{}
					if more > 0 {
						want = api.Trouble{Unit: which / 2, Code: api.ErrRange, At: which % 2}
					}
					if got := k.speak(); got != want {
						t.Error(op, added, which, more, got)
					}
				}
			}
		}
	}
	// Of two the first one is told.
	k := apart(api.ICall, 65535)
	k.objects[0].Relocs[1], k.objects[1].Relocs[0] = api.Reloc{At: 1, Symbol: 1, Add: 1}, api.Reloc{Symbol: 1, Add: 6000}
	if got := k.speak(); got != (api.Trouble{Unit: 0, Code: api.ErrRange, At: 1}) {
		t.Error(got)
	}
}

// apart is who links two objects, laid as if their second variables stood at a far address.
func apart(op, far int) *linker {
	bits := []uint32{uint32(op) << 24, uint32(op) << 24}
	one := func() api.Object {
		return api.Object{
			Code:    bits,
			Data:    []int32{0, 0},
			Symbols: []api.Symbol{{Name: "u", Kind: api.SymData, Size: 1, Sign: "int"}, {Name: "v", Kind: api.SymData, At: 1, Size: 1, Sign: "int"}},
			Relocs:  []api.Reloc{{At: 0}, {At: 1}},
		}
	}
	return &linker{
		Image:   api.Image{Code: slices.Concat([]uint32{0, 0}, bits, bits)},
		objects: []api.Object{one(), one()},
		starts:  []start{{2, far - 1}, {4, far - 1}},
	}
}
