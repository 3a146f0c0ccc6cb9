package object_test

import (
	"math"
	"strconv"

	"scarfjoint/api"
)

// drawer draws numbers: the same ones each time.
type drawer uint64

func (d *drawer) below(n int) int {
	*d ^= *d << 13
	*d ^= *d >> 7
	*d ^= *d << 17
	return int(uint64(*d) >> 11 % uint64(n))
}

// oneOf draws one of a list.
func oneOf[T any](d *drawer, l []T) T {
	return l[d.below(len(l))]
}

// word draws one, more often one with its highest bit set or of few bits.
func (d *drawer) word() uint32 {
	return oneOf(d, []uint32{0, 1, 1 << 31, 0xffffffff, uint32(d.below(1 << 32)), uint32(d.below(1 << 32)), uint32(d.below(256))})
}

// sign draws a text.
func (d *drawer) sign() string {
	var b []byte
	for range 1 + d.below(1+d.below(40)) {
		b = append(b, byte(32+d.below(95)))
	}
	return string(b)
}

// object draws one that may be.
func (d *drawer) object() api.Object {
	var o api.Object
	for at := range d.below(12) {
		d.symbol(&o, oneOf(d, []string{"a", "B", "c_", "x9", "longer_"})+strconv.Itoa(at))
	}
	if len(o.Symbols) == 0 {
		return o
	}
	for at := range o.Code {
		if d.below(3) == 0 {
			// All of their fields that they may have, but Imm.
			open := []uint32{api.IMovi<<24 | uint32(d.below(16))<<20, api.IZero<<24 | uint32(d.below(16))<<20, api.IJump << 24, api.ICall << 24}
			o.Code[at] = oneOf(d, open)
			o.Relocs = append(o.Relocs, api.Reloc{At: at, Symbol: d.below(len(o.Symbols)), Add: oneOf(d, []int{0, 1, d.below(api.MaxCode + 1), api.MaxCode})})
		}
	}
	return o
}

// symbol draws one more, with its words.
func (d *drawer) symbol(o *api.Object, name string) {
	s := api.Symbol{Name: name, Kind: 1 + d.below(4), Sign: d.sign()}
	words := 1 + d.below(1+d.below(8))
	switch s.Kind {
	case api.SymFun:
		s.At, s.Size, s.Static, s.Frame = len(o.Code), words, d.below(2) == 0, oneOf(d, []int{0, d.below(900), api.MaxMemory})
		for range words {
			o.Code = append(o.Code, d.word())
		}
	case api.SymData:
		s.At, s.Size, s.Static = len(o.Data), words, d.below(2) == 0
		for range words {
			o.Data = append(o.Data, int32(d.word()))
		}
	}
	o.Symbols = append(o.Symbols, s)
}

// off draws a number near another one, or far from it.
func (d *drawer) off(n int) int {
	return oneOf(d, []int{n - 1, n + 1, 0, 1, -n, n + 1<<32, n - 1<<31, n + 1<<16, math.MaxInt, math.MinInt, api.MaxCode, api.MaxCode + 1})
}

// spoil changes something of an object, in its own memory.
func (d *drawer) spoil(o *api.Object) {
	if len(o.Relocs) > 0 && d.below(3) == 0 {
		r := &o.Relocs[d.below(len(o.Relocs))]
		field := oneOf(d, []*int{&r.At, &r.Symbol, &r.Add})
		*field = d.off(*field)
		return
	}
	if len(o.Symbols) > 0 && d.below(3) > 0 {
		d.spoilSymbol(&o.Symbols[d.below(len(o.Symbols))], o.Symbols)
		return
	}
	switch d.below(6) {
	case 0:
		o.Code = append(o.Code, d.word())
	case 1:
		o.Code = o.Code[:d.below(len(o.Code)+1)]
	case 2:
		o.Data = append(o.Data, 5)
	case 3:
		o.Data = o.Data[:d.below(len(o.Data)+1)]
	case 4:
		o.Symbols = o.Symbols[:d.below(len(o.Symbols)+1)]
	case 5:
		for at := range o.Code {
			if d.below(4) == 0 {
				o.Code[at] ^= 1 << d.below(32)
			}
		}
	}
}

func (d *drawer) spoilSymbol(s *api.Symbol, all []api.Symbol) {
	switch d.below(6) {
	case 0:
		s.Name = oneOf(d, []string{"", "int", s.Name + "-", s.Name + "_________________", all[0].Name, "other"})
	case 1:
		s.Sign = oneOf(d, []string{"", s.Sign + "\x7f", "\x1f" + s.Sign, s.Sign + " ~"})
	case 2:
		s.Static = !s.Static
	default:
		field := oneOf(d, []*int{&s.Kind, &s.At, &s.Size, &s.Frame})
		*field = d.off(*field)
	}
}
