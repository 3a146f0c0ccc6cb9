package link_test

import (
	"cmp"
	"slices"
	"strconv"
	"testing"

	"scarfjoint/api"
)

// program is objects that are spoiled, and the memory that is asked for.
type program struct {
	objects []api.Object
	memory  int
}

// sound is a program of which nothing is wrong. Its last object is left alone by slips of single symbols.
func sound() *program {
	return &program{memory: 200, objects: all(
		objectOf(variable("v", 1), fun("f", "call @g", "jump @f+1"), outFun("g"), fun("h", "exit r3")),
		objectOf(outVariable("v"), start(), fun("g", "movi r1 @v", "exit r1")),
		objectOf(outFun("f"), static(variable("v", 7)), static(fun("f2", "call @f", "zero r2 @f2"))),
		objectOf(static(fun("last", "exit r0"))),
	)}
}

// main is the symbol main of the sound program, whatever it is called by now.
func (p *program) main() *api.Symbol { return &p.objects[1].Symbols[1] }

// more adds a part to an object, and tells its number.
func (p *program) more(unit int, x part) int {
	o := &p.objects[unit]
	add(o, x, nil)
	return len(o.Symbols) - 1
}

// slip spoils a program in one way.
type slip struct {
	why   string
	sort  int // how early S1 names its sort
	spoil func(p *program) api.Trouble
}

// numberedSlips are those of single symbols, in an object.
func numberedSlips(unit int) []slip {
	of := "of " + strconv.Itoa(unit)
	l := []slip{
		{"form " + of, 1, func(p *program) api.Trouble {
			o := &p.objects[unit]
			o.Relocs = append(o.Relocs, api.Reloc{At: -1})
			return api.Trouble{Unit: unit, Code: api.ErrForm}
		}},
		{"no such function " + of, 3, func(p *program) api.Trouble {
			return api.Trouble{Unit: unit, Code: api.ErrName, At: p.more(unit, outFun("noFun"))}
		}},
		{"no such variable " + of, 3, func(p *program) api.Trouble {
			return api.Trouble{Unit: unit, Code: api.ErrName, At: p.more(unit, outVariable("noVar"))}
		}},
		{"other kind " + of, 3, func(p *program) api.Trouble {
			p.more(3, fun("k"+strconv.Itoa(unit), "exit r0"))
			return api.Trouble{Unit: unit, Code: api.ErrKind, At: p.more(unit, signed(outVariable("k"+strconv.Itoa(unit)), "fn()int"))}
		}},
		{"other sign " + of, 3, func(p *program) api.Trouble {
			p.more(3, variable("s"+strconv.Itoa(unit), 1))
			return api.Trouble{Unit: unit, Code: api.ErrKind, At: p.more(unit, signed(outVariable("s"+strconv.Itoa(unit)), "long"))}
		}},
	}
	if unit == 0 {
		return l
	}
	return append(l,
		slip{"twice a variable " + of, 2, func(p *program) api.Trouble {
			p.more(0, fun("t"+strconv.Itoa(unit), "exit r0"))
			return api.Trouble{Unit: unit, Code: api.ErrTwice, At: p.more(unit, variable("t"+strconv.Itoa(unit), 1))}
		}},
		slip{"twice a function " + of, 2, func(p *program) api.Trouble {
			return api.Trouble{Unit: unit, Code: api.ErrTwice, At: p.more(unit, fun("h", "exit r0"))}
		}},
	)
}

// slips are all of them.
func slips() []slip {
	whole := func(code api.Errno, at int, do func(p *program)) func(p *program) api.Trouble {
		return func(p *program) api.Trouble {
			do(p)
			return api.Trouble{Code: code, At: at}
		}
	}
	l := []slip{
		{"one object more", 0, whole(api.ErrSize, 0, func(p *program) { p.objects = append(p.objects, api.Object{}) })},
		{"main by another name", 4, whole(api.ErrName, 0, func(p *program) { p.main().Name = "start" })},
		{"main static", 4, whole(api.ErrName, 0, func(p *program) { p.main().Static = true })},
		{"main of another sign", 5, whole(api.ErrKind, 0, func(p *program) { p.main().Sign = "fn(int)int" })},
		{"no memory", 6, whole(api.ErrSize, 1, func(p *program) { p.memory = 0 })},
		{"memory below 0", 6, whole(api.ErrSize, 1, func(p *program) { p.memory = -1 })},
		{"too much memory", 6, whole(api.ErrSize, 1, func(p *program) { p.memory = api.MaxMemory + 1 })},
		{"too much Code", 6, whole(api.ErrSize, 1, func(p *program) { p.more(3, static(fun("much", slices.Repeat([]string{"out r0"}, 5990)...))) })},
		{"too much Data", 6, whole(api.ErrSize, 1, func(p *program) { p.more(3, static(variable("many", make([]int32, 15990)...))) })},
	}
	for unit := range 3 {
		l = append(l, numberedSlips(unit)...)
	}
	return l
}

// S1: each trouble by itself, and each pair of them: the one that is named first is told, of one sort that of the first object and symbol.
func TestPairs(t *testing.T) {
	p := sound()
	wellDone(t, "sound", p.objects, p.memory)
	for _, a := range slips() {
		p := sound()
		want := a.spoil(p)
		tells(t, a.why, p.objects, p.memory, want)
		for _, b := range slips() {
			if a.why == b.why {
				continue
			}
			p := sound()
			first, second := a.spoil(p), b.spoil(p)
			if cmp.Or(cmp.Compare(a.sort, b.sort), cmp.Compare(first.Unit, second.Unit), cmp.Compare(first.At, second.At)) > 0 {
				first = second
			}
			tells(t, a.why+" and "+b.why, p.objects, p.memory, first)
		}
	}
}
