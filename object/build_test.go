package object_test

import (
	"fmt"
	"strconv"
	"testing"

	"scarfjoint/api"
	"scarfjoint/code"
)

// bits are an instruction's.
func bits(i api.Instr) uint32 {
	w, e := code.Encode(i)
	if e != api.OK {
		panic(fmt.Sprint(i, e))
	}
	return w
}

// calls is an instruction of which a reloc may speak.
func calls() uint32 { return bits(api.Instr{Op: api.ICall}) }

// repeat is so many words alike.
func repeat(n int, w uint32) []uint32 {
	var l []uint32
	for range n {
		l = append(l, w)
	}
	return l
}

func fun(name string, at, size int) api.Symbol {
	return api.Symbol{Name: name, Kind: api.SymFun, At: at, Size: size, Sign: "fn()int"}
}

func data(name string, at, size int) api.Symbol {
	return api.Symbol{Name: name, Kind: api.SymData, At: at, Size: size, Sign: "long"}
}

func outFun(name string) api.Symbol {
	return api.Symbol{Name: name, Kind: api.SymOutFun, Sign: "fn()int"}
}

func outData(name string) api.Symbol {
	return api.Symbol{Name: name, Kind: api.SymOutData, Sign: "int"}
}

// good is an object that may be, with something of each sort: functions and variables by turns.
func good() api.Object {
	return api.Object{
		Code: []uint32{
			bits(api.Instr{Op: api.ICall}),
			bits(api.Instr{Op: api.IMovi, A: 12}),
			bits(api.Instr{Op: api.ILoad, A: 0, B: 12}),
			bits(api.Instr{Op: api.IZero, A: 3}),
			0xffffffff,
			bits(api.Instr{Op: api.IJump}),
		},
		Data: []int32{-1 << 31, -1, 7},
		Symbols: []api.Symbol{
			{Name: "main", Kind: api.SymFun, At: 0, Size: 4, Sign: "fn()int", Frame: 21},
			{Name: "a", Kind: api.SymData, Static: true, At: 0, Size: 2, Sign: "long"},
			outFun("f"),
			{Name: "g_2", Kind: api.SymFun, Static: true, At: 4, Size: 2, Sign: "fn(int,...)int", Frame: api.MaxMemory},
			{Name: "B", Kind: api.SymData, At: 2, Size: 1, Sign: "int"},
			outData("v"),
		},
		Relocs: []api.Reloc{{At: 0, Symbol: 2}, {At: 1, Symbol: 5, Add: 1}, {At: 3, Symbol: 0, Add: 2}, {At: 5, Symbol: 3, Add: api.MaxCode}},
	}
}

// with is the good object, changed.
func with(change func(o *api.Object)) api.Object {
	o := good()
	change(&o)
	return o
}

// numbered is so many symbols that stand elsewhere.
func numbered(n int) []api.Symbol {
	var l []api.Symbol
	for at := range n {
		l = append(l, outFun("f"+strconv.Itoa(at)))
	}
	return l
}

// told writes something; no more than the beginning of what is long.
func told(v any) string {
	return fmt.Sprintf("%.700s", fmt.Sprintf("%+v", v))
}

// refuses holds that bytes are no object's.
func refuses(t *testing.T, why string, b []byte) {
	t.Helper()
	holds(t, why, b, api.Object{}, api.ErrForm)
}
