package tail_test

import (
	"testing"

	"scarfjoint/api"
	"scarfjoint/three"
)

// O1, O2: drawn bodies, against the words of O1 taken one by one; each condition is the only one that is missed often enough.
func TestDrawnBodies(t *testing.T) {
	d := drawer(0x9e3779b97f4a7c15)
	met, alone := map[int]int{}, map[string]int{}
	several := 0
	for range 20000 {
		b := d.body(8, 8)
		if !three.May(b) {
			t.Fatal("may not be:", text(b))
		}
		want := reference(b)
		tells(t, b, want...)
		if len(want) > 1 {
			several++
		}
		for at, o := range b.Code {
			switch l := amiss(b, at); len(l) {
			case 0:
				met[o.Op]++
			case 1:
				alone[l[0]]++
			}
		}
	}
	for _, why := range []string{noReturn, notSame, anyNumber, isCopied, manyWords, greatArea, noCallHere} {
		if alone[why] < 500 {
			t.Error("rarely drawn:", why, alone[why])
		}
	}
	if met[api.TCall] < 5000 || met[api.TCallr] < 5000 || several < 3000 {
		t.Error("rarely drawn:", met, several)
	}
}

// O1, O2: drawn bodies with many orders, and of as many as there may be.
func TestDrawnLongBodies(t *testing.T) {
	d := drawer(0x2545f4914f6cdd1d)
	for range 100 {
		b := d.body(100, 600)
		tells(t, b, reference(b)...)
	}
	for range 4 {
		b := body(d.function(2), api.MaxRegs)
		for len(b.Code) < api.MaxCode {
			b.Code = append(b.Code, d.row(b, 2)...)
		}
		b.Code = append(b.Code[:api.MaxCode-1], jump(0))
		tells(t, b, reference(b)...)
	}
}

// O2: drawn bodies with something changed: ErrForm just where three.May is false, and nothing else then.
func TestDrawnChanges(t *testing.T) {
	d := drawer(0x853c49e6748fea9b)
	seen := map[bool]int{}
	for range 20000 {
		b := d.body(6, 5)
		for range 1 + d.below(2) {
			d.change(&b)
		}
		may := three.May(b)
		seen[may]++
		if may {
			tells(t, b, reference(b)...)
		} else {
			refuses(t, b)
		}
	}
	if seen[true] < 3000 || seen[false] < 3000 {
		t.Error("rarely drawn:", seen)
	}
}
