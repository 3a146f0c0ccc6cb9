package abi_test

import (
	"slices"

	"scarfjoint/api"
	"scarfjoint/types"
)

// book is the chapter written once more, by its own words: which registers are free, and which word each place of the area has ("" of one that is left out).
type book struct {
	free []int
	area []string
}

func (b *book) onArea(word string) api.Loc {
	b.free = nil
	b.area = append(b.area, word)
	return api.Loc{Stack: true, N: len(b.area) - 1}
}

func (b *book) inRegister() api.Loc {
	n := slices.Min(b.free)
	b.free = slices.DeleteFunc(b.free, func(m int) bool { return m == n })
	return api.Loc{N: n}
}

func (b *book) word() api.Loc {
	if len(b.free) > 0 {
		return b.inRegister()
	}
	return b.onArea("word")
}

func (b *book) evenPlace() {
	if len(b.area)&1 == 1 {
		b.area = append(b.area, "")
	}
}

func (b *book) evenBegin() {
	if len(b.free) > 0 && slices.Min(b.free)&1 == 1 {
		b.inRegister()
	}
	if len(b.free) == 0 {
		b.evenPlace()
	}
}

func (b *book) parameter(x api.Type) ([]api.Loc, bool) {
	words := types.Words(x)
	if words > 4 {
		return []api.Loc{b.word()}, true
	}
	if types.Even(x) {
		b.evenBegin()
	}
	if x.Kind == api.TLong {
		if len(b.free) >= 2 {
			return []api.Loc{b.inRegister(), b.inRegister()}, false
		}
		return []api.Loc{b.onArea("lower"), b.onArea("upper")}, false
	}
	var l []api.Loc
	for len(l) < words && len(b.free) > 0 {
		l = append(l, b.inRegister())
	}
	for len(l) < words {
		l = append(l, b.onArea("struct"))
	}
	return l, false
}

// told is what the chapter tells of a call.
func told(x api.Type, beyond []api.Type) (api.Places, api.Errno) {
	if !types.May(x) || x.Kind != api.TFn {
		return api.Places{}, api.ErrKind
	}
	if len(beyond) > 0 && !x.Many {
		return api.Places{}, api.ErrRange
	}
	if len(beyond) > 6 {
		return api.Places{}, api.ErrRange
	}
	for _, y := range beyond {
		if text := types.Text(y); text != "int" && text != "long" {
			return api.Places{}, api.ErrKind
		}
	}
	b := book{free: []int{0, 1, 2, 3}}
	p := api.Places{Result: -1, Count: -1}
	n := len(x.Parts) - 1
	switch types.Words(x.Parts[n]) {
	case 1:
		p.Results = []int{0}
	case 2:
		p.Results = []int{0, 1}
	default:
		p.Result = b.word().N
	}
	if x.Many {
		p.Count = b.word().N
	}
	for _, y := range x.Parts[:n] {
		l, copied := b.parameter(y)
		p.Params, p.Copied = append(p.Params, l), append(p.Copied, copied)
	}
	b.beyond(x, beyond, &p)
	return p, api.OK
}

func (b *book) beyond(x api.Type, beyond []api.Type, p *api.Places) {
	if x.Many {
		b.evenPlace()
		p.Extra = len(b.area)
	}
	for _, y := range beyond {
		b.onArea("beyond")
		if y.Kind == api.TLong {
			b.onArea("beyond")
		}
	}
	b.evenPlace()
	p.Area = len(b.area)
}
