package three_test

import (
	"reflect"
	"slices"
	"testing"

	"scarfjoint/api"
	"scarfjoint/three"
)

// K1 to K3: drawn units have no trouble, and show what the chapter written once more shows, with much fuel and with less.
func TestDrawnRuns(t *testing.T) {
	d := drawer(0x2545f4914f6cdd1d)
	how, ops, units, long := map[int]int{}, map[int]int{}, map[int]int{}, 0
	for range 6000 {
		l := d.program()
		if trouble := three.Check(l); trouble != (api.Trouble{}) || wrong(l) != trouble {
			t.Fatal(text(l...), trouble)
		}
		kept := copied(l)
		want := reference(l, 2000)
		shows(t, l, 2000, want)
		for range 3 {
			fuel := d.below(want.Steps + 2)
			shows(t, l, fuel, reference(l, fuel))
		}
		if !reflect.DeepEqual(l, kept) {
			t.Fatal("changed:", text(l...))
		}
		if t.Failed() {
			return
		}
		how[want.End]++
		units[len(l)]++
		if want.Steps > 60 && want.End == api.RunExit {
			long++
		}
		for _, m := range l {
			if !three.Fits(m) {
				t.Fatal("does not fit:", text(m))
			}
			for _, b := range m.Bodies {
				for _, o := range b.Code {
					ops[o.Op]++
				}
			}
		}
	}
	for end := api.RunFuel; end <= api.RunWrong; end++ {
		if how[end] < 100 {
			t.Error("rarely drawn", how)
		}
	}
	for op := api.TConst; op <= api.TExtra; op++ {
		if ops[op] < 500 {
			t.Error("rarely drawn", op, ops[op])
		}
	}
	if long < 50 || len(units) != api.MaxUnits {
		t.Error("rarely drawn", long, units)
	}
}

// spoilt draws units in which something is changed, as often as not of one field.
func (d *drawer) spoilt() []api.Made {
	l := copied(d.program())
	for range 1 + d.below(2) {
		m := &l[d.below(len(l))]
		switch d.below(9) {
		case 0:
			d.spoilJoint(l)
		case 1:
			l = append(l, copied([]api.Made{oneOf(d, l)})...)
		case 2, 3:
			d.spoilNames(m)
		default:
			if len(m.Bodies) > 0 {
				d.spoilBody(&m.Bodies[d.below(len(m.Bodies))])
			}
		}
	}
	return l
}

// spoilJoint changes what units are for one another.
func (d *drawer) spoilJoint(l []api.Made) {
	for at := range l {
		for i := range l[at].Bodies {
			b := &l[at].Bodies[i]
			b.Static = b.Static != (d.below(4) == 0)
		}
		for i := range l[at].Globals {
			g := &l[at].Globals[i]
			g.Static = g.Static != (d.below(4) == 0)
		}
	}
}

// anyType draws a type, also one that may not be.
func (d *drawer) anyType() api.Type {
	return copiedType(oneOf(d, slices.Concat(signatures(), odd(), []api.Type{whole, long, {}, many(function(long))})))
}

// spoilNames changes a global or an outside, or has one more.
func (d *drawer) spoilNames(m *api.Made) {
	name := oneOf(d, append(names, "", "int", "h", "k"))
	switch d.below(6) {
	case 0:
		m.Globals = append(m.Globals, api.Global{Name: name, Type: oneOf(d, []api.Type{whole, long, wide}), Static: d.below(2) == 0})
	case 1:
		m.Outsides = append(m.Outsides, api.Outside{Name: name, Type: d.anyType(), Fun: d.below(2) == 0})
	case 2:
		if len(m.Globals) > 0 {
			g := &m.Globals[d.below(len(m.Globals))]
			g.Value = oneOf(d, []int64{g.Value, 1 << 31, -1<<31 - 1, 1 << 40})
			g.Type = oneOf(d, []api.Type{whole, long, g.Type, d.anyType()})
		}
	case 3:
		if len(m.Globals) > 0 {
			m.Globals[d.below(len(m.Globals))].Name = name
		}
	default:
		if len(m.Outsides) > 0 {
			o := &m.Outsides[d.below(len(m.Outsides))]
			switch d.below(4) {
			case 0:
				o.Fun = !o.Fun
			case 1:
				o.Name = name
			case 2:
				o.Type = d.anyType()
			default:
				o.Type = oneOf(d, []api.Type{whole, long})
			}
		}
	}
}

// spoilBody changes a body, mostly one of its orders.
func (d *drawer) spoilBody(b *api.Body) {
	switch d.below(12) {
	case 0:
		b.Name = oneOf(d, append(names, "", "9", "return"))
		return
	case 1:
		b.Type = d.anyType()
		return
	case 2:
		b.Regs += oneOf(d, []int{-2, -1, 1, api.MaxRegs, -b.Regs, api.MaxRegs - b.Regs})
		return
	case 3:
		b.Code = b.Code[:d.below(len(b.Code)+1)]
		return
	}
	if len(b.Code) == 0 {
		return
	}
	o := &b.Code[d.below(len(b.Code))]
	switch d.below(9) {
	case 0:
		o.Op = d.below(18) - 1
	case 1:
		o.D = append(o.D, d.below(max(b.Regs, 0)+2)-1)
	case 2:
		o.S = append(o.S, d.below(max(b.Regs, 0)+2)-1)
	case 3:
		o.D = o.D[:max(len(o.D)-1, 0)]
	case 4:
		o.S = o.S[:max(len(o.S)-1, 0)]
	case 5:
		o.N = oneOf(d, []int{-1, 0, 1, 2, len(b.Code) - 1, len(b.Code), 1 << 31, -1<<31 - 1})
	case 6:
		o.Name = oneOf(d, append(names, "", "int"))
	case 7:
		o.Type = d.anyType()
	case 8:
		for at := range o.D {
			o.D[at] = d.below(max(b.Regs, 0)+2) - 1
		}
	}
}

// K1 to K3: drawn units that were changed have the trouble that the chapter written once more has, and fit and may be as it says.
func TestDrawnTroubles(t *testing.T) {
	d := drawer(0x9e3779b97f4a7c15)
	met, may, fit := map[api.Trouble]int{}, map[bool]int{}, map[bool]int{}
	codes := map[api.Errno]int{}
	for range 15000 {
		l := d.spoilt()
		want := wrong(l)
		troubles(t, l, want)
		if want.Code == api.OK {
			shows(t, l, 300, reference(l, 300))
		}
		for _, m := range l {
			_, stray := strays(m)
			fits(t, m, !badForm(m) && !stray)
			fit[!badForm(m) && !stray]++
			for _, b := range m.Bodies {
				if three.May(b) != mayBody(b) {
					t.Error("may be:", mayBody(b), text(made(b)))
				}
				may[mayBody(b)]++
			}
		}
		if t.Failed() {
			return
		}
		met[want]++
		codes[want.Code]++
	}
	for _, code := range []api.Errno{api.OK, api.ErrSize, api.ErrForm, api.ErrKind, api.ErrName, api.ErrTwice} {
		if codes[code] < 100 {
			t.Error("rarely met", code, codes)
		}
	}
	if may[false] < 3000 || fit[false] < 3000 || len(met) < 30 {
		t.Error("rarely met", may, fit, len(met))
	}
}
