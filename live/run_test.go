package live_test

import (
	"slices"
	"strconv"
	"testing"

	"scarfjoint/api"
	"scarfjoint/live"
	"scarfjoint/three"
)

// callee is a function that tells the sum of its parameters, and returns it in each word of its result.
func callee(n int, x api.Type) api.Body {
	params, result := words(x)
	b := body(x, params+1)
	b.Name = "f" + strconv.Itoa(n)
	for register := range params {
		b.Code = append(b.Code, sum(params, params, register))
	}
	b.Code = append(b.Code, put(params), back(slices.Repeat(row(params), result)...))
	return b
}

// caller is a main that calls a body, with words beyond if it is of any number, and tells all that it returns.
func caller(b api.Body) api.Body {
	given, result := words(b.Type)
	if b.Type.Many {
		given += 2
	}
	m := body(function(whole), given+result)
	m.Name = "main"
	for register := range given {
		o := constant(register)
		o.N = register * 3
		m.Code = append(m.Code, o)
	}
	m.Code = append(m.Code, call(from(given, result), b.Type, from(0, given)...))
	for register := range result {
		m.Code = append(m.Code, put(given+register))
	}
	m.Code = append(m.Code, back(given))
	return m
}

// unit has a body, who calls it, and all whom it calls.
func unit(b api.Body) []api.Made {
	m := api.Made{Bodies: []api.Body{caller(b), b}, Globals: []api.Global{{Name: "g", Type: whole, Value: 5}}}
	for n, x := range called() {
		m.Bodies = append(m.Bodies, callee(n, x))
	}
	return []api.Made{m}
}

// overwritten is a body that, ahead of each order, gives another word to each register that is not live there.
func overwritten(b api.Body, l [][]int) api.Body {
	var code []api.Three
	var places []int
	for at, o := range b.Code {
		places = append(places, len(code))
		for register := range b.Regs {
			if !slices.Contains(l[at], register) {
				other := constant(register)
				other.N = 1000 + at
				code = append(code, other)
			}
		}
		code = append(code, o)
	}
	for at, o := range code {
		if o.Op == api.TJump || o.Op == api.TZero {
			code[at].N = places[o.N]
		}
	}
	b.Code = code
	return b
}

// M1: what is in a register that is not live is nothing to what a body does.
func TestWhatIsNotLive(t *testing.T) {
	d := drawer(0x2545f4914f6cdd1d)
	how := map[int]int{}
	for range 6000 {
		b := d.body(8, 16)
		l, e := live.Of(b)
		if e != api.OK {
			t.Fatal(text(b), e)
		}
		want, trouble := three.Run(unit(b), 1000)
		if trouble.Code != api.OK {
			t.Fatal(text(b), trouble)
		}
		how[want.End]++
		if want.End == api.RunFuel {
			continue
		}
		got, trouble := three.Run(unit(overwritten(b, l)), api.MaxFuel)
		if trouble.Code != api.OK || got.End != want.End || got.Value != want.Value || !slices.Equal(got.Out, want.Out) {
			t.Fatal(text(b), told(l), want, got, trouble)
		}
	}
	if how[api.RunExit] < 1000 || how[api.RunDivided] < 50 || how[api.RunWrong] < 50 {
		t.Error("rarely drawn:", how)
	}
}
