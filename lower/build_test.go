package lower_test

import (
	"slices"
	"strconv"
	"testing"

	"scarfjoint/api"
	"scarfjoint/lower"
	"scarfjoint/model"
	"scarfjoint/three"
	"scarfjoint/types"
)

const (
	least = -2147483648
	most  = 2147483647
)

// madeOf is a text's unit in orders: each body of it may be, and it fits by itself (L1).
func madeOf(t *testing.T, text string) api.Made {
	t.Helper()
	m, f := lower.Make(text)
	if f != (api.Fault{}) {
		t.Fatalf("%.600q: %v", text, f)
	}
	for _, b := range m.Bodies {
		if !three.May(b) {
			t.Fatalf("%.600q: %s may not be: %v", text, b.Name, b)
		}
	}
	if !three.Fits(m) {
		t.Fatalf("%.600q does not fit: %v", text, m)
	}
	return m
}

func madeOfAll(t *testing.T, texts []string) []api.Made {
	t.Helper()
	var l []api.Made
	for _, text := range texts {
		l = append(l, madeOf(t, text))
	}
	return l
}

// begins says whether a list begins with another one.
func begins(l, with []int32) bool {
	return len(l) >= len(with) && slices.Equal(l[:len(with)], with)
}

// agrees holds L2: what orders show against what their texts mean, with a fuel.
func agrees(t *testing.T, texts []string, l []api.Made, fuel int) {
	t.Helper()
	want, trouble := model.Run(texts, fuel)
	if trouble != (api.Trouble{}) {
		t.Fatalf("%.600q: %v", texts, trouble)
	}
	got, trouble := three.Run(l, 60*fuel+60)
	well := got.End == want.End && got.Value == want.Value && slices.Equal(got.Out, want.Out)
	if want.End == api.RunFuel {
		well = got.End != api.RunWrong && begins(got.Out, want.Out)
	}
	if trouble != (api.Trouble{}) || !well {
		t.Errorf("%.600q with %d: %v %v, not %v", texts, fuel, got, trouble, want)
	}
}

// means holds that orders mean what their texts mean (L2), with all fuel, just as much as is needed, and less (each down to 0, where that is not too many), and gives what the texts mean.
func means(t *testing.T, texts []string) api.Shown {
	t.Helper()
	want, trouble := model.Run(texts, api.MaxSteps)
	if trouble != (api.Trouble{}) {
		t.Fatalf("%.600q: %v", texts, trouble)
	}
	l := madeOfAll(t, texts)
	if trouble := three.Check(l); trouble != (api.Trouble{}) {
		t.Fatalf("%.600q: %v", texts, trouble)
	}
	agrees(t, texts, l, api.MaxSteps)
	stride := 1
	if want.Steps > 60 {
		stride = want.Steps / 10
	}
	for fuel := want.Steps; fuel >= 0; fuel -= stride {
		agrees(t, texts, l, fuel)
	}
	return want
}

// exits holds what a program shows, by its meaning and by its orders.
func exits(t *testing.T, texts []string, value int32, out ...int32) {
	t.Helper()
	s := means(t, texts)
	if s.End != api.RunExit || s.Value != value || !slices.Equal(s.Out, out) {
		t.Errorf("%.600q: %v, not %d %v", texts, s, value, out)
	}
}

// does holds what statements in main tell.
func does(t *testing.T, ahead, statements string, out ...int32) {
	t.Helper()
	exits(t, []string{ahead + "int main(){" + statements + "return 0;}"}, 0, out...)
}

// told is an expression and what is told of it.
type told struct {
	text string
	out  []int32
}

func one(n int32) []int32 { return []int32{n} }

func pair(low, high int32) []int32 { return []int32{low, high} }

func tellAll(t *testing.T, ahead string, rows []told) {
	t.Helper()
	for _, r := range rows {
		does(t, ahead, "put("+r.text+");", r.out...)
	}
}

// heads writes what stands in a unit, but its orders.
func heads(m api.Made) []string {
	sort := func(static bool) string {
		if static {
			return "static "
		}
		return ""
	}
	var l []string
	for _, b := range m.Bodies {
		l = append(l, sort(b.Static)+"body "+b.Name+" "+types.Text(b.Type))
	}
	for _, g := range m.Globals {
		l = append(l, sort(g.Static)+"global "+g.Name+" "+types.Text(g.Type)+" "+strconv.FormatInt(g.Value, 10))
	}
	for _, o := range m.Outsides {
		what := "variable "
		if o.Fun {
			what = "function "
		}
		l = append(l, what+o.Name+" "+types.Text(o.Type))
	}
	return l
}

// makes holds what stands in a text's unit.
func makes(t *testing.T, text string, want ...string) {
	t.Helper()
	if l := heads(madeOf(t, text)); !slices.Equal(l, want) {
		t.Errorf("%.600q: %q, not %q", text, l, want)
	}
}
