package emit_test

import (
	"testing"

	"scarfjoint/api"
	"scarfjoint/emit"
	"scarfjoint/model"
	"scarfjoint/tail"
	"scarfjoint/three"
)

// tally is what drawn programs had.
type tally struct {
	ends, images, orders, units, frames, lasts map[int]int
}

func newTally() tally {
	return tally{map[int]int{}, map[int]int{}, map[int]int{}, map[int]int{}, map[int]int{}, map[int]int{}}
}

// count counts what a program and its run had.
func (y tally) count(l []api.Made, want api.Shown, w *watched) {
	y.ends[want.End]++
	y.images[w.End]++
	y.units[len(l)]++
	y.lasts[min(w.lastOnes, 1)]++
	for _, frame := range w.frames {
		y.frames[min(frame/20, 3)]++
	}
	for _, m := range l {
		for _, b := range m.Bodies {
			for _, o := range b.Code {
				y.orders[o.Op]++
			}
		}
	}
}

// small says whether the objects of units have room in one image.
func small(t *testing.T, l []api.Made) bool {
	t.Helper()
	words := 2
	for _, m := range l {
		o, e := emit.Make(m)
		if e == api.ErrSize {
			return false
		}
		if e != api.OK {
			t.Fatal(text(m), e)
		}
		words += len(o.Code)
	}
	return words <= api.MaxCode
}

// Q1 to Q3: drawn units, of few registers and of many: their objects, and their images, held against what their orders do.
func TestDrawnUnits(t *testing.T) {
	t.Parallel()
	d := drawer(0x2545f4914f6cdd1d)
	y := newTally()
	for turn := range 3000 {
		l := d.program([]int{1, 6, 14, 40, 200}[min(turn%9, 4)])
		want, trouble := three.Run(l, 2000)
		if trouble != (api.Trouble{}) || want.End == api.RunWrong {
			t.Fatal(text(l...), told(want), trouble)
		}
		if !small(t, l) {
			continue
		}
		if want.End == api.RunFuel {
			// Of these it is said how they begin alone.
			y.count(l, want, holds(t, l, objects(t, l), api.MaxMemory, want, 2000))
		} else {
			y.count(l, want, meansIt(t, l, want))
		}
		if t.Failed() {
			return
		}
	}
	for op := api.TConst; op <= api.TExtra; op++ {
		if y.orders[op] < 500 {
			t.Error("rarely drawn", op, y.orders)
		}
	}
	if y.ends[api.RunExit] < 1500 || y.ends[api.RunDivided] < 50 || y.lasts[1] < 100 || len(y.units) != api.MaxUnits || y.frames[3] < 300 {
		t.Error("rarely drawn", y.ends, y.images, y.lasts, y.units, y.frames)
	}
}

// Q2: drawn texts, held against what they mean.
func TestDrawnTexts(t *testing.T) {
	t.Parallel()
	d := drawer(0x9e3779b97f4a7c15)
	y := newTally()
	calls := 0
	for range 1000 {
		texts, ok := d.texts()
		if !ok || model.Check(texts).Code != api.OK {
			continue
		}
		l := madeOf(t, texts)
		if !small(t, l) {
			continue
		}
		want, _ := three.Run(l, api.MaxFuel)
		y.count(l, want, meansText(t, texts))
		for _, m := range l {
			for _, b := range m.Bodies {
				last, _ := tail.Of(b)
				calls += len(last)
			}
		}
		if t.Failed() {
			return
		}
	}
	for op := api.TConst; op <= api.TExtra; op++ {
		if y.orders[op] < 100 {
			t.Error("rarely drawn", op, y.orders)
		}
	}
	if y.ends[api.RunExit] < 300 || y.ends[api.RunDivided] < 60 || y.lasts[1] < 30 || len(y.units) != api.MaxUnits || calls < 100 {
		t.Error("rarely drawn", y.ends, y.images, y.lasts, y.units, calls)
	}
}

// Q1: drawn units of which something was changed: those that fit have an object, and all others ErrForm.
func TestDrawnMisfits(t *testing.T) {
	t.Parallel()
	d := drawer(0xda3e39cb94b95bdb)
	met := map[bool]int{}
	for range 4000 {
		m := copied(oneOf(&d, d.program(6)))
		d.spoil(&m)
		fits := three.Fits(m)
		met[fits]++
		if fits {
			object(t, m)
		} else {
			refuses(t, "does not fit", m, api.ErrForm)
		}
		if t.Failed() {
			return
		}
	}
	if met[true] < 300 || met[false] < 1500 {
		t.Error("rarely drawn", met)
	}
}

// spoil changes something of a unit.
func (d *drawer) spoil(m *api.Made) {
	any := oneOf(d, []string{"", "int", "a", "main", "zz"})
	switch {
	case len(m.Bodies) > 0 && d.below(3) > 0:
		d.spoilBody(&m.Bodies[d.below(len(m.Bodies))], any)
	case len(m.Globals) > 0 && d.below(2) == 0:
		g := &m.Globals[d.below(len(m.Globals))]
		g.Value = oneOf(d, []int64{g.Value, 1 << 31, -1<<31 - 1})
		g.Type = oneOf(d, []api.Type{whole, long, ints(2), {}})
	case len(m.Outsides) > 0 && d.below(2) == 0:
		o := &m.Outsides[d.below(len(m.Outsides))]
		o.Fun = o.Fun != (d.below(2) == 0)
		o.Name = oneOf(d, []string{o.Name, any})
	default:
		m.Globals = append(m.Globals, api.Global{Name: any, Type: whole})
	}
}

// spoilBody changes a body, mostly one of its orders.
func (d *drawer) spoilBody(b *api.Body, any string) {
	o := &b.Code[d.below(len(b.Code))]
	switch d.below(10) {
	case 0:
		b.Name = any
	case 1:
		b.Regs += oneOf(d, []int{-2, -1, 1, api.MaxRegs})
	case 2:
		b.Code = b.Code[:d.below(len(b.Code)+1)]
	case 3:
		b.Type = d.signature()
	case 4:
		o.Op = d.below(18) - 1
	case 5:
		o.D = append(o.D, d.below(b.Regs+1))
	case 6:
		o.S = append(o.S, d.below(b.Regs+1))
	case 7:
		o.N += oneOf(d, []int{-1, 1, 1 << 20})
	case 8:
		o.Name = any
	case 9:
		o.Type.Many = !o.Type.Many
	}
}
