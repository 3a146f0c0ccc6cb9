package link

import (
	"strings"

	"scarfjoint/api"
	"scarfjoint/code"
	"scarfjoint/machine"
)

// ahead is how many instructions stand ahead of all objects.
const ahead = 2

// lay lays objects one behind the other, behind the instructions that call main and end the run with what it returns, and asks whether that is an image.
func (k *linker) lay() api.Trouble {
	k.measure()
	first := func(i api.Instr) {
		bits, _ := code.Encode(i)
		k.Code = append(k.Code, bits)
	}
	first(api.Instr{Op: api.ICall, Imm: k.address(k.open["main"])})
	first(api.Instr{Op: api.IExit})
	for unit, o := range k.objects {
		k.Code = append(k.Code, o.Code...)
		k.Data = append(k.Data, o.Data...)
		k.tell(unit)
	}
	if machine.Check(k.Image) != api.OK {
		return api.Trouble{Code: api.ErrSize, At: 1}
	}
	return api.Trouble{}
}

// measure finds where objects begin: all Code is ahead of all Data.
func (k *linker) measure() {
	next := ahead
	for _, o := range k.objects {
		k.starts = append(k.starts, start{code: next})
		next += len(o.Code)
	}
	for unit, o := range k.objects {
		k.starts[unit].data = next
		next += len(o.Data)
	}
}

// address is where in the memory that stands of which a symbol speaks.
func (k *linker) address(p place) int {
	s := k.symbol(p)
	switch s.Kind {
	case api.SymFun:
		return k.starts[p.unit].code + s.At
	case api.SymData:
		return k.starts[p.unit].data + s.At
	}
	return k.address(k.open[s.Name])
}

// tell tells where the functions of an object stand.
func (k *linker) tell(unit int) {
	for at, s := range k.objects[unit].Symbols {
		if s.Kind == api.SymFun {
			from := k.address(place{unit, at})
			k.ranges = append(k.ranges, api.Range{Name: strings.Clone(s.Name), Unit: unit, From: from, To: from + s.Size, Frame: s.Frame})
		}
	}
}

// speak has the instructions of all relocs speak of their addresses.
func (k *linker) speak() api.Trouble {
	for unit, o := range k.objects {
		for at, r := range o.Relocs {
			word := &k.Code[k.starts[unit].code+r.At]
			bits, ok := about(*word, k.address(place{unit, r.Symbol})+r.Add)
			if !ok {
				return api.Trouble{Unit: unit, Code: api.ErrRange, At: at}
			}
			*word = bits
		}
	}
	return api.Trouble{}
}

// about gives an instruction's bits, with another Imm; false, if that may not be its Imm.
func about(bits uint32, imm int) (uint32, bool) {
	i, _ := code.Decode(bits)
	i.Imm = imm
	bits, e := code.Encode(i)
	return bits, e == api.OK
}
