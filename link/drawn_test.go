package link_test

import (
	"testing"

	"scarfjoint/api"
)

// S1 to S3: drawn objects that may be put together.
func TestDrawn(t *testing.T) {
	d := drawer(0x2545f4914f6cdd1d)
	units, relocs, outsides := map[int]int{}, 0, 0
	for range 20000 {
		p := d.program()
		wellDone(t, "drawn", p.objects, p.memory)
		units[len(p.objects)]++
		for _, o := range p.objects {
			for _, r := range o.Relocs {
				relocs++
				if o.Symbols[r.Symbol].Kind > api.SymData {
					outsides++
				}
			}
		}
	}
	if len(units) != api.MaxUnits || relocs < 40000 || outsides < 10000 {
		t.Error("rarely drawn", units, relocs, outsides)
	}
}

// S1: drawn objects of which something was changed, once or more often.
func TestDrawnTroubles(t *testing.T) {
	d := drawer(0x9e3779b97f4a7c15)
	met := map[api.Trouble]int{}
	for turn := range 60000 {
		p := d.program()
		for range 1 + turn%3 {
			if len(p.objects) > 0 {
				d.spoil(p)
			}
		}
		got := agrees(t, "drawn", p.objects, p.memory).trouble
		met[api.Trouble{Unit: min(got.Unit, 1), Code: got.Code, At: min(got.At, 1)}]++
		if got.Code != api.OK {
			tells(t, "drawn", p.objects, p.memory, got)
		}
	}
	for _, trouble := range []api.Trouble{
		{},
		{Code: api.ErrSize}, {Code: api.ErrSize, At: 1}, {Code: api.ErrForm}, {Unit: 1, Code: api.ErrForm},
		{Unit: 1, Code: api.ErrTwice}, {Unit: 1, Code: api.ErrTwice, At: 1},
		{Code: api.ErrName}, {Code: api.ErrName, At: 1}, {Unit: 1, Code: api.ErrName}, {Unit: 1, Code: api.ErrName, At: 1},
		{Code: api.ErrKind}, {Code: api.ErrKind, At: 1}, {Unit: 1, Code: api.ErrKind}, {Unit: 1, Code: api.ErrKind, At: 1},
	} {
		if met[trouble] < 150 {
			t.Error("rarely drawn", trouble, met)
		}
	}
}
