package link_test

import (
	"slices"
	"testing"

	"scarfjoint/api"
	"scarfjoint/link"
	"scarfjoint/object"
)

// What chapter 18 says is written here once more, with nothing remembered between one question and the next.

// answer is all that Link answers.
type answer struct {
	image   api.Image
	ranges  []api.Range
	trouble api.Trouble
}

// given is one symbol of some objects.
type given struct {
	api.Symbol
	unit, at int
}

// symbols are all of them, object by object.
func symbols(l []api.Object) []given {
	var all []given
	for unit, o := range l {
		for at, s := range o.Symbols {
			all = append(all, given{s, unit, at})
		}
	}
	return all
}

func (s given) isThing() bool { return s.Kind == api.SymFun || s.Kind == api.SymData }

// shared are the functions and variables of a name that are not static.
func shared(l []api.Object, name string) []given {
	return slices.DeleteFunc(symbols(l), func(s given) bool { return !s.isThing() || s.Static || s.Name != name })
}

// wrong tells what is wrong first (S1).
func wrong(l []api.Object, memory int) api.Trouble {
	if len(l) == 0 || len(l) > 4 {
		return api.Trouble{Code: api.ErrSize}
	}
	for unit, o := range l {
		if !object.May(o) {
			return api.Trouble{Unit: unit, Code: api.ErrForm}
		}
	}
	for _, s := range symbols(l) {
		if s.isThing() && !s.Static && shared(l, s.Name)[0].unit < s.unit {
			return api.Trouble{Unit: s.unit, Code: api.ErrTwice, At: s.at}
		}
	}
	for _, s := range symbols(l) {
		if e := wrongOutside(l, s); e != api.OK {
			return api.Trouble{Unit: s.unit, Code: e, At: s.at}
		}
	}
	main := shared(l, "main")
	if len(main) == 0 || main[0].Kind != api.SymFun {
		return api.Trouble{Code: api.ErrName}
	}
	if main[0].Sign != "fn()int" {
		return api.Trouble{Code: api.ErrKind}
	}
	if instructions, variables := lengths(l); 2+instructions > 6000 || memory < 32 || memory > 16000 || 2+instructions+variables+16 > memory {
		return api.Trouble{Code: api.ErrSize, At: 1}
	}
	for unit, o := range l {
		for at, r := range o.Relocs {
			most := 65535
			if o.Code[r.At]>>24 == api.IMovi {
				most = 32767
			}
			if addressOf(l, unit, r.Symbol)+r.Add > most {
				return api.Trouble{Unit: unit, Code: api.ErrRange, At: at}
			}
		}
	}
	return api.Trouble{}
}

// wrongOutside tells what is wrong with a symbol of what stands elsewhere.
func wrongOutside(l []api.Object, s given) api.Errno {
	if s.isThing() {
		return api.OK
	}
	found := shared(l, s.Name)
	if len(found) == 0 {
		return api.ErrName
	}
	kind := map[int]int{api.SymOutFun: api.SymFun, api.SymOutData: api.SymData}[s.Kind]
	if found[0].Kind != kind || found[0].Sign != s.Sign {
		return api.ErrKind
	}
	return api.OK
}

// lengths tells how many words the Code of objects has in all, and how many their Data has.
func lengths(l []api.Object) (int, int) {
	instructions, variables := 0, 0
	for _, o := range l {
		instructions, variables = instructions+len(o.Code), variables+len(o.Data)
	}
	return instructions, variables
}

// addressOf is that of a symbol of an object (S2).
func addressOf(l []api.Object, unit, symbol int) int {
	s := l[unit].Symbols[symbol]
	instructions, variables := lengths(l[:unit])
	every, _ := lengths(l)
	switch s.Kind {
	case api.SymFun:
		return 2 + instructions + s.At
	case api.SymData:
		return 2 + every + variables + s.At
	}
	found := shared(l, s.Name)[0]
	return addressOf(l, found.unit, found.at)
}

// say is what Link answers.
func say(l []api.Object, memory int) answer {
	if trouble := wrong(l, memory); trouble.Code != api.OK {
		return answer{trouble: trouble}
	}
	main := shared(l, "main")[0]
	a := answer{image: api.Image{Memory: memory}}
	a.image.Code = []uint32{api.ICall<<24 | uint32(addressOf(l, main.unit, main.at)), api.IExit << 24}
	for unit, o := range l {
		for at, bits := range o.Code {
			for _, r := range o.Relocs {
				if r.At == at {
					bits |= uint32(addressOf(l, unit, r.Symbol) + r.Add)
				}
			}
			a.image.Code = append(a.image.Code, bits)
		}
		a.image.Data = append(a.image.Data, o.Data...)
	}
	for _, s := range symbols(l) {
		if s.Kind == api.SymFun {
			from := addressOf(l, s.unit, s.at)
			a.ranges = append(a.ranges, api.Range{Name: s.Name, Unit: s.unit, From: from, To: from + s.Size, Frame: s.Frame})
		}
	}
	return a
}

func linked(l []api.Object, memory int) answer {
	image, ranges, trouble := link.Link(l, memory)
	return answer{image, ranges, trouble}
}

func same(a, b answer) bool {
	return a.trouble == b.trouble && a.image.Memory == b.image.Memory && slices.Equal(a.image.Code, b.image.Code) && slices.Equal(a.image.Data, b.image.Data) && slices.Equal(a.ranges, b.ranges)
}

// agrees holds that Link answers what the chapter says, each time, and gives that.
func agrees(t *testing.T, why string, l []api.Object, memory int) answer {
	t.Helper()
	want, got, again := say(l, memory), linked(l, memory), linked(l, memory)
	if !same(got, want) {
		t.Fatalf("%s: %s\nnot %s\nof memory %d, objects %s", why, told(got), told(want), memory, told(l))
	}
	if !same(again, want) {
		t.Fatalf("%s: at first %s, then %s", why, told(got), told(again))
	}
	return got
}

// tells holds what Link says is wrong first.
func tells(t *testing.T, why string, l []api.Object, memory int, want api.Trouble) {
	t.Helper()
	got := agrees(t, why, l, memory)
	if got.trouble != want {
		t.Errorf("%s: %+v, not %+v", why, got.trouble, want)
	}
	// P2: of a trouble nothing else is answered.
	if want.Code != api.OK && (len(got.image.Code) > 0 || len(got.image.Data) > 0 || got.image.Memory != 0 || len(got.ranges) > 0) {
		t.Errorf("%s: beside a trouble: %s", why, told(got))
	}
	if want.Code == api.OK && len(got.image.Code) < 3 {
		t.Errorf("%s: no image: %s", why, told(got))
	}
}

// wellDone holds that nothing is wrong.
func wellDone(t *testing.T, why string, l []api.Object, memory int) {
	t.Helper()
	tells(t, why, l, memory, api.Trouble{})
}
