package code_test

import (
	"fmt"
	"math"
	"strings"
	"testing"

	"scarfjoint/api"
	"scarfjoint/code"
)

// shape is a row of the table in doc/02-code.md, written out here once more.
type shape struct {
	op        int
	name      string
	a, b, c   bool
	imm       bool
	low, high int
}

var shapes = []shape{
	{op: 1, name: "mov", a: true, b: true},
	{op: 2, name: "movi", a: true, imm: true, low: -32768, high: 32767},
	{op: 3, name: "movh", a: true, imm: true, high: 65535},
	{op: 4, name: "add", a: true, b: true, c: true},
	{op: 5, name: "sub", a: true, b: true, c: true},
	{op: 6, name: "mul", a: true, b: true, c: true},
	{op: 7, name: "high", a: true, b: true, c: true},
	{op: 8, name: "div", a: true, b: true, c: true},
	{op: 9, name: "rem", a: true, b: true, c: true},
	{op: 10, name: "and", a: true, b: true, c: true},
	{op: 11, name: "or", a: true, b: true, c: true},
	{op: 12, name: "xor", a: true, b: true, c: true},
	{op: 13, name: "less", a: true, b: true, c: true},
	{op: 14, name: "low", a: true, b: true, c: true},
	{op: 15, name: "same", a: true, b: true, c: true},
	{op: 16, name: "addi", a: true, b: true, imm: true, low: -32768, high: 32767},
	{op: 17, name: "load", a: true, b: true, imm: true, low: -32768, high: 32767},
	{op: 18, name: "store", a: true, b: true, imm: true, low: -32768, high: 32767},
	{op: 19, name: "jump", imm: true, high: 65535},
	{op: 20, name: "zero", a: true, imm: true, high: 65535},
	{op: 21, name: "call", imm: true, high: 65535},
	{op: 22, name: "callr", a: true},
	{op: 23, name: "jumpr", a: true},
	{op: 24, name: "out", a: true},
	{op: 25, name: "exit", a: true},
}

var noOps = []int{0, -1, -25, 26, 27, 100, 255, 256, 257, 281, 1<<32 + 1, math.MaxInt, math.MinInt}

// numbers are at the edges of what a field may be, and beside them.
var numbers = []int{math.MinInt, -1 << 32, -65536, -65535, -32769, -32768, -32767, -16, -1, 0, 1, 2, 14, 15, 16, 17, 255, 256, 32767, 32768, 65535, 65536, 65537, 1 << 32, 1<<32 + 3, math.MaxInt}

func register(n int) bool { return 0 <= n && n < 16 }

// fits says whether a row takes these fields.
func (s shape) fits(a, b, c, imm int) bool {
	right := func(has bool, n int) bool { return n == 0 || has && register(n) }
	if s.imm && (imm < s.low || imm > s.high) || !s.imm && imm != 0 {
		return false
	}
	return right(s.a, a) && right(s.b, b) && right(s.c, c)
}

// bits puts a row's 32 bits together by sums, not by shifts.
func (s shape) bits(a, b, c, imm int) uint32 {
	if imm < 0 {
		imm += 65536
	}
	return uint32(s.op*256*65536 + a*16*65536 + b*65536 + c + imm)
}

// text writes a row's text.
func (s shape) text(a, b, c, imm int) string {
	out := s.name
	if s.a {
		out += fmt.Sprintf(" r%d", a)
	}
	if s.b {
		out += fmt.Sprintf(" r%d", b)
	}
	if s.c {
		out += fmt.Sprintf(" r%d", c)
	}
	if s.imm {
		out += fmt.Sprintf(" %d", imm)
	}
	return out
}

func TestNumbersOfInstructions(t *testing.T) {
	want := []int{api.IMov, api.IMovi, api.IMovh, api.IOp + api.OpAdd, api.IOp + api.OpSub, api.IOp + api.OpMul, api.IOp + api.OpHigh, api.IOp + api.OpDiv, api.IOp + api.OpRem, api.IOp + api.OpAnd, api.IOp + api.OpOr, api.IOp + api.OpXor, api.IOp + api.OpLess, api.IOp + api.OpLow, api.IOp + api.OpSame, api.IAddi, api.ILoad, api.IStore, api.IJump, api.IZero, api.ICall, api.ICallr, api.IJumpr, api.IOut, api.IExit}
	for k, s := range shapes {
		if s.op != want[k] {
			t.Errorf("%s: %d, not %d", s.name, s.op, want[k])
		}
	}
}

// checkOne holds an instruction against its row, both ways of both forms.
func checkOne(t *testing.T, s shape, i api.Instr) {
	t.Helper()
	w, e := code.Encode(i)
	text, f := code.Text(i)
	if !s.fits(i.A, i.B, i.C, i.Imm) {
		if w != 0 || e != api.ErrRange || text != "" || f != api.ErrRange {
			t.Fatalf("%+v is beyond its row: %x %d %q %d", i, w, e, text, f)
		}
		return
	}
	if want := s.bits(i.A, i.B, i.C, i.Imm); w != want || e != api.OK {
		t.Fatalf("Encode %+v: %x %d, not %x", i, w, e, want)
	}
	if want := s.text(i.A, i.B, i.C, i.Imm); text != want || f != api.OK {
		t.Fatalf("Text %+v: %q %d, not %q", i, text, f, want)
	}
	if k, ok := code.Decode(w); k != i || !ok {
		t.Fatalf("Decode %x: %+v %v, not %+v", w, k, ok, i)
	}
	if k, g := code.Read(text); k != i || g != api.OK {
		t.Fatalf("Read %q: %+v %d, not %+v", text, k, g, i)
	}
}

func TestEachFieldAtItsEdges(t *testing.T) {
	for _, s := range shapes {
		for _, n := range numbers {
			for _, other := range []int{0, 1, 15} {
				base := api.Instr{Op: s.op}
				if s.a {
					base.A = other
				}
				if s.b {
					base.B = other
				}
				if s.c {
					base.C = other
				}
				if s.imm {
					base.Imm = other
				}
				a, b, c, imm := base, base, base, base
				a.A, b.B, c.C, imm.Imm = n, n, n, n
				for _, i := range []api.Instr{a, b, c, imm} {
					checkOne(t, s, i)
				}
			}
		}
	}
}

func TestAllRegisters(t *testing.T) {
	for _, s := range shapes {
		for k := range 16 * 16 * 16 {
			checkOne(t, s, api.Instr{Op: s.op, A: k / 256, B: k / 16 % 16, C: k % 16})
		}
	}
}

func TestAllNumbers(t *testing.T) {
	for _, s := range shapes {
		for imm := -40000; imm <= 70000; imm += 1 + (imm+40000)%3 {
			checkOne(t, s, api.Instr{Op: s.op, Imm: imm})
		}
	}
}

func TestNoSuchOp(t *testing.T) {
	for _, op := range noOps {
		// ErrForm is named first: it is told of fields that are beyond all, too.
		for _, i := range []api.Instr{{Op: op}, {Op: op, A: 1, B: 2, C: 3}, {Op: op, A: 16}, {Op: op, Imm: -1}, {Op: op, B: -1, Imm: 70000}} {
			if w, e := code.Encode(i); w != 0 || e != api.ErrForm {
				t.Errorf("Encode %+v: %x %d", i, w, e)
			}
			if s, e := code.Text(i); s != "" || e != api.ErrForm {
				t.Errorf("Text %+v: %q %d", i, s, e)
			}
		}
	}
}

func TestByHand(t *testing.T) {
	for _, x := range []struct {
		i    api.Instr
		bits uint32
		text string
	}{
		{api.Instr{Op: api.IAddi, A: 13, B: 13, Imm: -4}, 0x10ddfffc, "addi r13 r13 -4"},
		{api.Instr{Op: api.IMov, A: 1, B: 2}, 0x01120000, "mov r1 r2"},
		{api.Instr{Op: api.IMovi, A: 12, Imm: -32768}, 0x02c08000, "movi r12 -32768"},
		{api.Instr{Op: api.IMovi, A: 12, Imm: -1}, 0x02c0ffff, "movi r12 -1"},
		{api.Instr{Op: api.IMovh, A: 12, Imm: 65535}, 0x03c0ffff, "movh r12 65535"},
		{api.Instr{Op: api.IOp + api.OpAdd, A: 1, B: 2, C: 3}, 0x04120003, "add r1 r2 r3"},
		{api.Instr{Op: api.IOp + api.OpSame, A: 15, B: 14, C: 13}, 0x0ffe000d, "same r15 r14 r13"},
		{api.Instr{Op: api.ILoad, A: 3, B: 13, Imm: 32767}, 0x113d7fff, "load r3 r13 32767"},
		{api.Instr{Op: api.IStore, A: 3, B: 13}, 0x123d0000, "store r3 r13 0"},
		{api.Instr{Op: api.IJump, Imm: 32768}, 0x13008000, "jump 32768"},
		{api.Instr{Op: api.IZero, A: 10, Imm: 65535}, 0x14a0ffff, "zero r10 65535"},
		{api.Instr{Op: api.ICall}, 0x15000000, "call 0"},
		{api.Instr{Op: api.ICallr, A: 9}, 0x16900000, "callr r9"},
		{api.Instr{Op: api.IJumpr, A: 14}, 0x17e00000, "jumpr r14"},
		{api.Instr{Op: api.IOut}, 0x18000000, "out r0"},
		{api.Instr{Op: api.IExit, A: 15}, 0x19f00000, "exit r15"},
	} {
		if w, e := code.Encode(x.i); w != x.bits || e != api.OK {
			t.Errorf("Encode %+v: %x %d", x.i, w, e)
		}
		if i, ok := code.Decode(x.bits); i != x.i || !ok {
			t.Errorf("Decode %x: %+v %v", x.bits, i, ok)
		}
		if s, e := code.Text(x.i); s != x.text || e != api.OK {
			t.Errorf("Text %+v: %q %d", x.i, s, e)
		}
		if i, e := code.Read(x.text); i != x.i || e != api.OK {
			t.Errorf("Read %q: %+v %d", x.text, i, e)
		}
	}
}

// byBits reads bits by the rows above.
func byBits(w uint32) (api.Instr, bool) {
	op, a, b, low := int(w>>24), int(w>>20)%16, int(w>>16)%16, int(w%65536)
	for _, s := range shapes {
		if s.op != op {
			continue
		}
		c, imm := low, 0
		if s.imm {
			c, imm = 0, low
			if low > s.high {
				imm = low - 65536
			}
		}
		if s.fits(a, b, c, imm) {
			return api.Instr{Op: op, A: a, B: b, C: c, Imm: imm}, true
		}
	}
	return api.Instr{}, false
}

func TestBitsThatAreNone(t *testing.T) {
	lows := []uint32{0, 1, 2, 14, 15, 16, 17, 31, 32, 255, 256, 4096, 0x7fff, 0x8000, 0x8001, 0xf000, 0xfff0, 0xffff}
	for high := range uint32(1 << 16) {
		for _, low := range lows {
			w := high<<16 | low
			want, right := byBits(w)
			if i, ok := code.Decode(w); i != want || ok != right {
				t.Fatalf("Decode %x: %+v %v, not %+v %v", w, i, ok, want, right)
			}
		}
	}
}

func TestTextsThatAreNone(t *testing.T) {
	for _, s := range []string{
		"", " ", "  ", "r", "r1", "0", "-1",
		"mov", "mov ", "mov r1", "mov r1 ", "mov  r1 r2", "mov r1  r2", " mov r1 r2", "mov r1 r2 ", "mov r1 r2\n", "mov\tr1 r2", "mov r1\tr2", "mov r1 r2 r3", "mov r1 r2 0", "mov r1,r2", "mov r1r2",
		"MOV r1 r2", "Mov r1 r2", "mov R1 r2", "mov 1 r2", "mov r1 2", "mov rr1 r2", "mov r1 rr2", "mov r r2", "mov r1 r",
		"mov r01 r2", "mov r1 r02", "mov r1 r+2", "mov r-1 r2", "mov r-0 r2", "mov r00 r2", "mov r16 r2", "mov r1 r16", "mov r1 r99999999999999999999", "mov r1 r0x2", "mov r1_0 r2", "mov r1 r2.", "mov r1 r2\x00",
		"movi r1", "movi r1 ", "movi r1 +1", "movi r1 01", "movi r1 00", "movi r1 -0", "movi r1 -01", "movi r1 --1", "movi r1 - 1", "movi r1 32768", "movi r1 -32769", "movi r1 r1", "movi 1 1", "movi r16 1", "movi r1 0x1", "movi r1 1_0", "movi r1 1e1", "movi r1 １", "movi r1 99999999999999999999", "movi r1 65535",
		"movh r1 -1", "movh r1 65536", "movh r1 065535", "movh r1 +0", "movh r1 -0",
		"add r1 r2", "add r1 r2 3", "add r1 r2 r16", "add r1 r2 r3 r4", "add r1 r2 r3 0", "add r1 r2 r03", "op r1 r2 r3",
		"addi r1 r2", "addi r1 r2 r3", "addi r1 2", "addi r1 r2 32768", "addi r1 r2 -32769", "addi r1 r2 -4 ", "addi r1 r2  -4", "addi r1 r2 - 4",
		"load r1 r2 +1", "load r1 r2", "store r1 r2", "store r1 r2 40000",
		"jump", "jump ", "jump r1", "jump -1", "jump 65536", "jump 01", "jump 0 0", "call", "call -1", "call r1", "call  1",
		"zero r1", "zero 1", "zero r1 -1", "zero r1 65536", "zero r1 r1",
		"callr 1", "callr", "callr r1 0", "jumpr", "jumpr r16", "out", "out 1", "out r1 ", "out r1 r2", "exit", "exit r-1", "exit r1 0", "exits r1", "exi r1",
		strings.Repeat("mov r1 r2 ", 1000), "jump " + strings.Repeat("0", 100000), "jump " + strings.Repeat("9", 100000), strings.Repeat(" ", 100000),
	} {
		if i, e := code.Read(s); i != (api.Instr{}) || e != api.ErrForm {
			t.Errorf("Read %.40q: %+v %d", s, i, e)
		}
	}
}

// TestOneByteAway: what parts from a text by one byte is read only if it is the text of another instruction.
func TestOneByteAway(t *testing.T) {
	bytes := " -+_.r019amx\t\n\x00\xff"
	for _, s := range shapes {
		i := api.Instr{Op: s.op}
		if s.a {
			i.A = 1
		}
		if s.b {
			i.B = 10
		}
		if s.c {
			i.C = 5
		}
		if s.imm {
			i.Imm = 120
		}
		text := s.text(i.A, i.B, i.C, i.Imm)
		for at := range len(text) + 1 {
			if at < len(text) {
				checkRead(t, text[:at]+text[at+1:])
			}
			for k := range len(bytes) {
				checkRead(t, text[:at]+bytes[k:k+1]+text[at:])
				if at < len(text) {
					checkRead(t, text[:at]+bytes[k:k+1]+text[at+1:])
				}
			}
		}
	}
}

// byText reads a text by the rows above: by writing the ones that it could be.
func byText(text string) (api.Instr, bool) {
	for _, s := range shapes {
		var a, b, c, imm int
		form := s.name
		var into []any
		for _, f := range []struct {
			has bool
			n   *int
			as  string
		}{{s.a, &a, " r%d"}, {s.b, &b, " r%d"}, {s.c, &c, " r%d"}, {s.imm, &imm, " %d"}} {
			if f.has {
				form += f.as
				into = append(into, f.n)
			}
		}
		if _, err := fmt.Sscanf(text, form, into...); err != nil {
			continue
		}
		if s.fits(a, b, c, imm) && s.text(a, b, c, imm) == text {
			return api.Instr{Op: s.op, A: a, B: b, C: c, Imm: imm}, true
		}
	}
	return api.Instr{}, false
}

func checkRead(t *testing.T, text string) {
	t.Helper()
	want, right := byText(text)
	errno := api.ErrForm
	if right {
		errno = api.OK
	}
	if i, e := code.Read(text); i != want || e != errno {
		t.Fatalf("Read %q: %+v %d, not %+v %d", text, i, e, want, errno)
	}
}
