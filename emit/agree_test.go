package emit_test

import (
	"slices"
	"testing"

	"scarfjoint/api"
	"scarfjoint/emit"
	"scarfjoint/lower"
	"scarfjoint/model"
	"scarfjoint/three"
	"scarfjoint/types"
)

// object is what Make makes of a unit: it may be, and has the unit's symbols (Q1).
func object(t *testing.T, m api.Made) api.Object {
	t.Helper()
	o, e := emit.Make(m)
	if e != api.OK {
		t.Fatalf("%s\n%d", text(m), e)
	}
	if why := amissObject(o); why != "" {
		t.Fatalf("%s\nmay not be: %s\n%v %v", text(m), why, o.Symbols, o.Relocs)
	}
	if why := amissSymbols(m, o); why != "" {
		t.Fatalf("%s\n%s\n%v", text(m), why, o.Symbols)
	}
	return o
}

// amissSymbols tells what of an object's symbols and data is not the unit's (Q1).
func amissSymbols(m api.Made, o api.Object) string {
	var want []api.Symbol
	var data []int32
	for _, b := range m.Bodies {
		want = append(want, api.Symbol{Name: b.Name, Kind: api.SymFun, Static: b.Static, Sign: types.Text(b.Type)})
	}
	for _, g := range m.Globals {
		want = append(want, api.Symbol{Name: g.Name, Kind: api.SymData, Static: g.Static, Sign: types.Text(g.Type)})
		data = append(data, int32(g.Value))
		if g.Type.Kind == api.TLong {
			data = append(data, int32(g.Value>>32))
		}
	}
	for _, x := range m.Outsides {
		kind := api.SymOutData
		if x.Fun {
			kind = api.SymOutFun
		}
		want = append(want, api.Symbol{Name: x.Name, Kind: kind, Sign: types.Text(x.Type)})
	}
	if !slices.Equal(o.Data, data) {
		return "data"
	}
	same := func(a, b api.Symbol) bool {
		return a.Name == b.Name && a.Kind == b.Kind && a.Static == b.Static && a.Sign == b.Sign
	}
	if !slices.EqualFunc(o.Symbols, want, same) {
		return "symbols"
	}
	for at, s := range o.Symbols {
		if s.Kind == api.SymFun && (s.Frame > 900 || m.Bodies[at].Regs <= 400 && s.Frame > 600) {
			return "a great frame"
		}
	}
	return ""
}

func objects(t *testing.T, l []api.Made) []api.Object {
	t.Helper()
	var all []api.Object
	for _, m := range l {
		all = append(all, object(t, m))
	}
	return all
}

// begins says whether a list begins with another one.
func begins(l, with []int32) bool {
	return len(l) >= len(with) && slices.Equal(l[:len(with)], with)
}

// bound is within how many steps an image's run ends, if that of orders does in so many (Q2).
func bound(steps int) int {
	return min(400*steps+400, api.MaxFuel)
}

// endOf is how an image's run ends where that of orders does.
func endOf(run int) int {
	return map[int]int{api.RunExit: api.EndExit, api.RunDivided: api.EndDivided}[run]
}

// holds holds an image's run of so many steps in some memory against what the orders show, by Q2 and Q3, and gives it; none, if there is no such image.
func holds(t *testing.T, l []api.Made, all []api.Object, memory int, want api.Shown, steps int) *watched {
	t.Helper()
	image, ranges, ok := linked(t, all, memory)
	if !ok {
		return nil
	}
	w := watch(t, image, ranges, steps)
	well := begins(want.Out, w.Out)
	if w.End != api.EndFull {
		well = w.End == endOf(want.End) && w.Value == want.Value && slices.Equal(w.Out, want.Out)
	}
	if want.End == api.RunFuel {
		// Nothing is said of how such a run ends, but no other words are told.
		well = begins(want.Out, w.Out) || begins(w.Out, want.Out)
	}
	if !well || w.End == api.EndWrong {
		t.Errorf("%s\nmemory %d: %s, not %s", text(l...), memory, told(w.Stop), told(want))
	}
	return w
}

// means holds that the images of units do what their orders do, in much memory and in little, and gives the run in much.
func means(t *testing.T, l []api.Made) *watched {
	t.Helper()
	want, trouble := three.Run(l, api.MaxFuel)
	if trouble != (api.Trouble{}) || want.End == api.RunWrong {
		t.Fatalf("%s\n%v %v", text(l...), want, trouble)
	}
	return meansIt(t, l, want)
}

// meansIt is means where it is known already what the orders show.
func meansIt(t *testing.T, l []api.Made, want api.Shown) *watched {
	t.Helper()
	all := objects(t, l)
	w := holds(t, l, all, api.MaxMemory, want, bound(want.Steps))
	if w == nil {
		t.Fatalf("%s\nno image", text(l...))
	}
	if w.End == api.EndFull && w.deepest < 10 {
		t.Errorf("%s\nfull with %d calls", text(l...), w.deepest)
	}
	// The least memory in which the run has its room, and less.
	need := api.MaxMemory - w.lowest + w.low
	for _, memory := range []int{need, need - 1, need / 2, w.low + 16} {
		less := holds(t, l, all, memory, want, bound(want.Steps))
		if less != nil && w.End != api.EndFull && (less.End == api.EndFull) != (memory < need) {
			t.Errorf("%s\nmemory %d of %d: %s", text(l...), memory, need, told(less.Stop))
		}
	}
	return w
}

// exits holds what a unit of bodies shows, by its orders and by its image.
func exits(t *testing.T, l []api.Body, value int32, out ...int32) *watched {
	t.Helper()
	return shows(t, []api.Made{made(l...)}, api.EndExit, value, out...)
}

// shows holds how units end, and what they tell.
func shows(t *testing.T, l []api.Made, end int, value int32, out ...int32) *watched {
	t.Helper()
	w := means(t, l)
	if w.End != end || w.Value != value || !slices.Equal(w.Out, out) {
		t.Errorf("%s\n%s, not %d %d %s", text(l...), told(w.Stop), end, value, told(out))
	}
	return w
}

// madeOf is texts' units in orders.
func madeOf(t *testing.T, texts []string) []api.Made {
	t.Helper()
	var l []api.Made
	for _, s := range texts {
		m, f := lower.Make(s)
		if f != (api.Fault{}) {
			t.Fatalf("%.600q: %v", s, f)
		}
		l = append(l, m)
	}
	return l
}

// meansText holds that the image of texts does what these mean (Q2), and gives its run in much memory.
func meansText(t *testing.T, texts []string) *watched {
	t.Helper()
	want, trouble := model.Run(texts, api.MaxSteps)
	if trouble != (api.Trouble{}) {
		t.Fatalf("%.600q: %v", texts, trouble)
	}
	l := madeOf(t, texts)
	w := means(t, l)
	if want.End == api.RunFuel || w.End == api.EndFull {
		return w
	}
	if w.End != endOf(want.End) || w.Value != want.Value || !slices.Equal(w.Out, want.Out) || w.Steps > bound(want.Steps) {
		t.Errorf("%.600q: %s, not %s", texts, told(w.Stop), told(want))
	}
	return w
}

// showsText holds what texts show that exit.
func showsText(t *testing.T, texts []string, value int32, out ...int32) *watched {
	t.Helper()
	w := meansText(t, texts)
	if w.End != api.EndExit || w.Value != value || !slices.Equal(w.Out, out) {
		t.Errorf("%.600q: %s, not %d %s", texts, told(w.Stop), value, told(out))
	}
	return w
}
