package link_test

import (
	"math"
	"slices"
	"strconv"

	"scarfjoint/api"
)

// drawer draws numbers: the same ones each time.
type drawer uint64

func (d *drawer) below(n int) int {
	*d ^= *d << 13
	*d ^= *d >> 7
	*d ^= *d << 17
	return int(uint64(*d) >> 11 % uint64(n))
}

// oneOf draws one of a list.
func oneOf[T any](d *drawer, l []T) T {
	return l[d.below(len(l))]
}

// names are few, so that objects have the same ones for things of their own.
var names = []string{"a", "b", "c", "d", "main"}

// program draws objects that may be put together.
func (d *drawer) program() *program {
	parts := make([][]part, 1+d.below(api.MaxUnits))
	taken := map[string]bool{}
	free := func(unit int, name string, open bool) bool {
		own := slices.ContainsFunc(parts[unit], func(p part) bool { return p.Name == name })
		return !own && !(open && taken[name])
	}
	add := func(unit int, p part) {
		if free(unit, p.Name, !p.Static) {
			taken[p.Name] = taken[p.Name] || !p.Static
			parts[unit] = append(parts[unit], p)
		}
	}
	add(d.below(len(parts)), fun("main", "jumpr r14"))
	for range d.below(5 * len(parts)) {
		add(d.below(len(parts)), d.thing(oneOf(d, names)))
	}
	d.speak(parts)
	p := &program{}
	for _, l := range parts {
		d.shuffle(l)
		p.objects = append(p.objects, d.object(l))
	}
	instructions, variables := lengths(p.objects)
	least := max(2+instructions+variables+16, 32)
	p.memory = oneOf(d, []int{least, least + 1 + d.below(100), api.MaxMemory})
	return p
}

// thing draws a function or a variable; its words are drawn later.
func (d *drawer) thing(name string) part {
	var p part
	size := 1 + d.below(1+d.below(6))
	if d.below(2) == 0 {
		p = part{Symbol: api.Symbol{Name: name, Kind: api.SymFun, Frame: oneOf(d, []int{0, d.below(900), api.MaxMemory})}}
	} else {
		p = part{Symbol: api.Symbol{Name: name, Kind: api.SymData}}
	}
	p.Size, p.Static, p.Sign = size, d.below(3) == 0, oneOf(d, []string{"int", "long", "fn()int", "?"})
	if name == "main" && !p.Static {
		p.Kind, p.Frame, p.Sign = api.SymFun, 7, "fn()int"
	}
	return p
}

// speak has objects say what stands elsewhere.
func (d *drawer) speak(parts [][]part) {
	for unit := range parts {
		for other, l := range parts {
			for _, p := range l {
				known := slices.ContainsFunc(parts[unit], func(own part) bool { return own.Name == p.Name })
				if other != unit && !p.Static && !known && p.Kind <= api.SymData && d.below(3) > 0 {
					parts[unit] = append(parts[unit], part{Symbol: api.Symbol{Name: p.Name, Kind: p.Kind + 2, Sign: p.Sign}})
				}
			}
		}
	}
}

func (d *drawer) shuffle(l []part) {
	for at := range l {
		other := d.below(at + 1)
		l[at], l[other] = l[other], l[at]
	}
}

// object draws the words and the relocs of an object of such parts.
func (d *drawer) object(l []part) api.Object {
	var o api.Object
	for _, p := range l {
		s := p.Symbol
		switch s.Kind {
		case api.SymFun:
			s.At = len(o.Code)
			for range s.Size {
				o.Code = append(o.Code, oneOf(d, []uint32{uint32(d.below(1 << 32)), 0, api.ICall << 24, api.IMovi<<24 | 5}))
			}
		case api.SymData:
			s.At = len(o.Data)
			for range s.Size {
				o.Data = append(o.Data, int32(uint32(d.below(1<<32))))
			}
		}
		o.Symbols = append(o.Symbols, s)
	}
	for at := range o.Code {
		if d.below(2) == 0 {
			continue
		}
		a := uint32(d.below(16)) << 20
		o.Code[at] = oneOf(d, []uint32{api.IMovi<<24 | a, api.IZero<<24 | a, api.IJump << 24, api.ICall << 24})
		o.Relocs = append(o.Relocs, api.Reloc{At: at, Symbol: d.below(len(o.Symbols)), Add: oneOf(d, []int{0, 0, 1, d.below(api.MaxCode), api.MaxCode})})
	}
	return o
}

// spoil changes something of a program.
func (d *drawer) spoil(p *program) {
	o := &p.objects[d.below(len(p.objects))]
	switch d.below(12) {
	case 0:
		instructions, variables := lengths(p.objects)
		edge := 2 + instructions + variables + 16
		p.memory = oneOf(d, []int{edge - 1, edge, 31, 32, 0, -1, api.MaxMemory + 1, math.MaxInt, math.MinInt})
	case 1:
		p.objects = append(p.objects, d.program().objects...)
	case 2:
		at := d.below(len(p.objects))
		p.objects = slices.Delete(p.objects, at, at+1)
	case 3:
		if len(o.Relocs) > 0 {
			r := &o.Relocs[d.below(len(o.Relocs))]
			field := oneOf(d, []*int{&r.At, &r.Symbol, &r.Add})
			*field = oneOf(d, []int{*field + 1, *field - 1, 0, api.MaxCode, api.MaxCode + 1, math.MaxInt})
		}
	case 4:
		*o = oneOf(d, p.objects)
	default:
		if len(o.Symbols) > 0 {
			d.spoilSymbol(&o.Symbols[d.below(len(o.Symbols))])
		}
	}
}

func (d *drawer) spoilSymbol(s *api.Symbol) {
	switch d.below(4) {
	case 0:
		s.Name = oneOf(d, append([]string{"x" + strconv.Itoa(d.below(9)), ""}, names...))
	case 1:
		s.Sign = oneOf(d, []string{"int", "long", "fn()int", "?", "fn()long"})
	case 2:
		s.Static = !s.Static
	case 3:
		if s.Kind > api.SymData {
			s.Kind = api.SymOutFun + api.SymOutData - s.Kind
		} else {
			s.Static = false
		}
	}
}
