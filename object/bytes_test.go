package object_test

import (
	"bytes"
	"strings"
	"testing"

	"scarfjoint/api"
	"scarfjoint/object"
)

// number is one as 4 bytes, written out.
func number(b ...byte) string {
	return strings.Repeat("\x00", 4-len(b)) + string(b)
}

// R2, R3: bytes, one by one.
func TestBytes(t *testing.T) {
	zero := number()
	for _, c := range []struct {
		why  string
		o    api.Object
		want []string
	}{
		{"nothing", api.Object{}, []string{zero, zero, zero, zero}},
		{
			"a function",
			api.Object{Code: []uint32{0x19000000, 0xfedcba98}, Symbols: []api.Symbol{{Name: "main", Kind: api.SymFun, Size: 2, Sign: "fn()int", Frame: 16000}}},
			[]string{
				number(2), "\x19\x00\x00\x00", "\xfe\xdc\xba\x98",
				zero,
				number(1), number(4), "main", number(1), zero, zero, number(2), number(7), "fn()int", number(0x3e, 0x80),
				zero,
			},
		},
		{
			"variables",
			api.Object{Data: []int32{-1 << 31, -2, 1<<31 - 1}, Symbols: []api.Symbol{
				{Name: "a", Kind: api.SymData, Static: true, Size: 2, Sign: "long"},
				{Name: "b_", Kind: api.SymData, At: 2, Size: 1, Sign: "int"},
			}},
			[]string{
				zero,
				number(3), "\x80\x00\x00\x00", "\xff\xff\xff\xfe", "\x7f\xff\xff\xff",
				number(2),
				number(1), "a", number(2), number(1), zero, number(2), number(4), "long", zero,
				number(2), "b_", number(2), zero, number(2), number(1), number(3), "int", zero,
				zero,
			},
		},
		{
			"what stands elsewhere, and relocs",
			api.Object{
				Code: []uint32{0x02c00000, 0, 0x15000000},
				Symbols: []api.Symbol{
					{Name: "g", Kind: api.SymOutFun, Sign: "~ "},
					{Name: "f", Kind: api.SymFun, Static: true, Size: 3, Sign: "!"},
					{Name: "v", Kind: api.SymOutData, Sign: "int"},
				},
				Relocs: []api.Reloc{{At: 0, Symbol: 2, Add: 1}, {At: 2, Symbol: 0, Add: 6000}},
			},
			[]string{
				number(3), "\x02\xc0\x00\x00", zero, "\x15\x00\x00\x00",
				zero,
				number(3),
				number(1), "g", number(3), zero, zero, zero, number(2), "~ ", zero,
				number(1), "f", number(1), number(1), zero, number(3), number(1), "!", zero,
				number(1), "v", number(4), zero, zero, zero, number(3), "int", zero,
				number(2),
				zero, number(2), number(1),
				number(2), zero, number(0x17, 0x70),
			},
		},
	} {
		want := []byte(strings.Join(c.want, ""))
		if got, e := object.Put(c.o); e != api.OK || !bytes.Equal(got, want) {
			t.Errorf("%s: % x %d, not % x", c.why, got, e, want)
		}
		agrees(t, c.why, c.o, true)
		holds(t, c.why, want, c.o, api.OK)
	}
}

// R2: counts and lengths of more than one byte, and of more than two.
func TestLongBytes(t *testing.T) {
	sign := strings.Repeat("x", 2000)
	o := api.Object{Code: repeat(300, 1), Data: make([]int32, 16000), Symbols: []api.Symbol{fun("f", 0, 257), data("v", 0, 15999), fun("g", 257, 43), data("w", 15999, 1)}}
	o.Symbols[2].Sign = sign
	b, e := object.Put(o)
	want := number(1, 44) + strings.Repeat(number(1), 300) + number(0x3e, 0x80) + strings.Repeat(number(), 16000) + number(4) +
		number(1) + "f" + number(1) + number() + number() + number(1, 1) + number(7) + "fn()int" + number() +
		number(1) + "v" + number(2) + number() + number() + number(0x3e, 0x7f) + number(4) + "long" + number() +
		number(1) + "g" + number(1) + number() + number(1, 1) + number(43) + number(7, 0xd0) + sign + number() +
		number(1) + "w" + number(2) + number() + number(0x3e, 0x7f) + number(1) + number(4) + "long" + number() +
		number()
	if e != api.OK || string(b) != want {
		t.Errorf("%d: %d bytes, not %d", e, len(b), len(want))
	}
	agrees(t, "long", o, true)
}

// R2, P2: of an object that may not be ErrForm, and nothing else.
func TestNoBytes(t *testing.T) {
	for _, o := range []api.Object{
		{Code: []uint32{0}},
		{Relocs: []api.Reloc{{}}},
		with(func(o *api.Object) { o.Symbols[0].Name = "" }),
		with(func(o *api.Object) { o.Relocs[3].Add = -1 }),
	} {
		if b, e := object.Put(o); e != api.ErrForm || b != nil {
			t.Error(b, e)
		}
	}
}
