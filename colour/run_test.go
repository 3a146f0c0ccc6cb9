package colour_test

import (
	"slices"
	"strconv"
	"testing"

	"scarfjoint/api"
	"scarfjoint/lower"
	"scarfjoint/three"
)

// callee is a function that tells the sum of its parameters, and returns it in each word of its result.
func callee(n int, x api.Type) api.Body {
	params, result := words(x)
	b := body(x, params+1)
	b.Name = "f" + strconv.Itoa(n)
	for register := range params {
		b.Code = append(b.Code, sum(params, params, register))
	}
	b.Code = append(b.Code, put(params), back(slices.Repeat(row(params), result)...))
	return b
}

// caller is a main that calls a body, with words beyond if it is of any number, and tells all that it returns.
func caller(b api.Body) api.Body {
	given, result := words(b.Type)
	if b.Type.Many {
		given += 2
	}
	m := body(function(whole), given+result)
	m.Name = "main"
	for register := range given {
		o := constant(register)
		o.N = register*3 + 1
		m.Code = append(m.Code, o)
	}
	m.Code = append(m.Code, call(from(given, result), b.Type, from(0, given)...))
	m.Code = append(append(m.Code, all(from(given, result)...)...), back(given))
	return m
}

// unit has a body, who calls it, and all whom it calls.
func unit(b api.Body) []api.Made {
	m := api.Made{Bodies: []api.Body{caller(b), b}, Globals: []api.Global{{Name: "g", Type: whole, Value: 5}}}
	for n, x := range called() {
		m.Bodies = append(m.Bodies, callee(n, x))
	}
	return []api.Made{m}
}

// placed is a body that does what another one does, with its registers where they lie: behind its parameters' come the machine's twelve, and behind these the places of the frame. At first each place has another word, but those of the registers that are live there; each call overwrites 0 to 3, ahead of what it writes.
func placed(b api.Body, l []api.Loc) api.Body {
	params, _ := words(b.Type)
	numbers := func(registers []int) []int {
		var places []int
		for _, register := range registers {
			n := params + l[register].N
			if l[register].Stack {
				n += 12
			}
			places = append(places, n)
		}
		return places
	}
	code := spoil(from(params, 12+b.Regs))
	for _, register := range reference(b)[0] {
		first := api.Three{Op: api.TConst, D: numbers(row(register))}
		if register < params {
			first = api.Three{Op: api.TCopy, D: first.D, S: row(register)}
		}
		code = append(code, first)
	}
	var begins []int
	for _, o := range b.Code {
		begins = append(begins, len(code))
		o.D, o.S = numbers(o.D), numbers(o.S)
		code = append(code, o)
		if o.Op == api.TCall || o.Op == api.TCallr {
			lost := slices.DeleteFunc(from(params, 4), func(place int) bool { return slices.Contains(o.D, place) })
			code = append(code, spoil(lost)...)
		}
	}
	for at, o := range code {
		if o.Op == api.TJump || o.Op == api.TZero {
			code[at].N = begins[o.N]
		}
	}
	b.Regs, b.Code = params+12+b.Regs, code
	return b
}

// spoil gives registers words that no one asks for.
func spoil(registers []int) []api.Three {
	code := constants(registers...)
	for at := range code {
		code[at].N = 100000 + 77*at
	}
	return code
}

// sameShown says whether two runs end the same way, and tell the same.
func sameShown(a, b api.Shown) bool {
	return a.End == b.End && a.Value == b.Value && slices.Equal(a.Out, b.Out)
}

// N3: drawn bodies do with their registers where they lie what they do with all of them apart.
func TestDrawnRuns(t *testing.T) {
	d := drawer(0x2545f4914f6cdd1d)
	how, frames, calls := map[int]int{}, 0, 0
	for at := range 8000 {
		b := d.body(8, 16)
		if at%2 == 0 {
			b = d.body(30, 50)
		}
		l := lies(t, b)
		want, trouble := three.Run(unit(b), 1000)
		if trouble.Code != api.OK {
			t.Fatal(text(b), trouble)
		}
		how[want.End]++
		if want.End == api.RunFuel {
			continue
		}
		got, trouble := three.Run(unit(placed(b, l)), api.MaxFuel)
		if trouble.Code != api.OK || !sameShown(got, want) {
			t.Fatal(text(b), told(l), want, got, trouble)
		}
		if inFrame(l) > 0 {
			frames++
		}
		if slices.ContainsFunc(b.Code, func(o api.Three) bool { return o.Op == api.TCall }) {
			calls++
		}
	}
	if how[api.RunExit] < 1000 || how[api.RunDivided] < 50 || how[api.RunWrong] < 50 || frames < 500 || calls < 500 {
		t.Error("rarely drawn:", how, frames, calls)
	}
}

// N3: units of texts, all of whose bodies have their registers where they lie.
func TestRunsOfTexts(t *testing.T) {
	for _, source := range sources() {
		m, _ := lower.Make(source)
		want, trouble := three.Run([]api.Made{m}, api.MaxFuel)
		if trouble.Code != api.OK || want.End != api.RunExit {
			t.Fatal(source, want, trouble)
		}
		for at, b := range m.Bodies {
			m.Bodies[at] = placed(b, lies(t, b))
		}
		got, trouble := three.Run([]api.Made{m}, api.MaxFuel)
		if trouble.Code != api.OK || !sameShown(got, want) {
			t.Error(source, want, got, trouble)
		}
	}
}

// N3: on drawn ways of orders, whatever is in the registers: what is at a place when it is read was written there last for that register, and calls overwrite 0 to 3.
func TestDrawnWays(t *testing.T) {
	d := drawer(0x9e3779b97f4a7c15)
	reads := 0
	for range 4000 {
		b := d.body(20, 50)
		l := lies(t, b)
		for range 5 {
			n, wrong := d.way(b, l)
			reads += n
			if wrong >= 0 {
				t.Fatalf("%s\n%s\n%d has another one's word", text(b), told(l), wrong)
			}
		}
	}
	if reads < 100000 {
		t.Error("rarely read:", reads)
	}
}

// way goes a drawn way of orders from the first one on, and tells how often it read registers; and a register at whose place another one's word was when it was read, or -1.
func (d *drawer) way(b api.Body, l []api.Loc) (int, int) {
	holds := map[api.Loc]int{}
	for _, register := range reference(b)[0] {
		holds[l[register]] = register
	}
	reads, at := 0, 0
	for range 100 {
		o := b.Code[at]
		for _, register := range o.S {
			reads++
			if owner, ok := holds[l[register]]; !ok || owner != register {
				return reads, register
			}
		}
		if o.Op == api.TCall || o.Op == api.TCallr {
			for n := range 4 {
				delete(holds, api.Loc{N: n})
			}
		}
		for _, register := range o.D {
			holds[l[register]] = register
		}
		next := nextOnes(b, at)
		if len(next) == 0 {
			break
		}
		at = oneOf(d, next)
	}
	return reads, -1
}
