package object_test

import (
	"fmt"
	"math"
	"strconv"
	"strings"
	"testing"

	"scarfjoint/api"
	"scarfjoint/code"
)

// R1: the good object, that of nothing, and what has one sort of things alone.
func TestObjectsThatMayBe(t *testing.T) {
	agrees(t, "good", good(), true)
	agrees(t, "nothing", api.Object{}, true)
	agrees(t, "empty lists", api.Object{Code: []uint32{}, Data: []int32{}, Symbols: []api.Symbol{}, Relocs: []api.Reloc{}}, true)
	agrees(t, "one function", api.Object{Code: repeat(1, 0), Symbols: []api.Symbol{fun("f", 0, 1)}}, true)
	agrees(t, "one variable", api.Object{Data: []int32{0}, Symbols: []api.Symbol{data("v", 0, 1)}}, true)
	agrees(t, "a variable of many words", api.Object{Data: make([]int32, 5), Symbols: []api.Symbol{data("v", 0, 5)}}, true)
	agrees(t, "what stands elsewhere", api.Object{Symbols: []api.Symbol{outData("v"), outFun("f")}}, true)
}

// R1: how many words, symbols and relocs there are at most.
func TestHowMany(t *testing.T) {
	for _, n := range []int{1, api.MaxCode - 1, api.MaxCode, api.MaxCode + 1, 2 * api.MaxCode} {
		why := fmt.Sprint("words of Code: ", n)
		agrees(t, why, api.Object{Code: repeat(n, 7), Symbols: []api.Symbol{fun("f", 0, n)}}, n <= api.MaxCode)
	}
	for _, n := range []int{1, api.MaxMemory - 1, api.MaxMemory, api.MaxMemory + 1} {
		why := fmt.Sprint("words of Data: ", n)
		agrees(t, why, api.Object{Data: make([]int32, n), Symbols: []api.Symbol{data("v", 0, n)}}, n <= api.MaxMemory)
	}
	for _, n := range []int{1, 399, 400, 401, 1000} {
		agrees(t, fmt.Sprint("symbols: ", n), api.Object{Symbols: numbered(n)}, n <= 400)
	}
	for _, n := range []int{1, api.MaxCode - 1, api.MaxCode, api.MaxCode + 1} {
		o := api.Object{Code: repeat(api.MaxCode, calls()), Symbols: []api.Symbol{fun("f", 0, api.MaxCode)}}
		for at := range n {
			o.Relocs = append(o.Relocs, api.Reloc{At: at})
		}
		agrees(t, fmt.Sprint("relocs: ", n), o, n <= api.MaxCode)
	}
	// The most of all at once.
	o := api.Object{Code: repeat(api.MaxCode, calls()), Data: make([]int32, api.MaxMemory), Symbols: numbered(400)}
	o.Symbols[399], o.Symbols[0] = fun("f", 0, api.MaxCode), data("v", 0, api.MaxMemory)
	for at := range api.MaxCode {
		o.Relocs = append(o.Relocs, api.Reloc{At: at, Symbol: at % 400, Add: api.MaxCode - at})
	}
	for at := range o.Symbols {
		o.Symbols[at].Sign = strings.Repeat("~", 2000)
	}
	agrees(t, "the most", o, true)
}

// R1: names, of each kind of symbol.
func TestNames(t *testing.T) {
	for at := range good().Symbols {
		for _, name := range []string{"x", "Z", "a0_", "abcdefghijklmnop", "ints", "Int", "fnn"} {
			agrees(t, name, with(func(o *api.Object) { o.Symbols[at].Name = name }), true)
		}
		for _, name := range []string{"", "1", "_", "_a", "a-", "a b", " a", "a\n", "a\x00", "\xc3\xa4", "a\xff", "abcdefghijklmnopq", strings.Repeat("a", 5000)} {
			agrees(t, name, with(func(o *api.Object) { o.Symbols[at].Name = name }), false)
		}
		for _, name := range strings.Fields("break count else extern extra fn if int long put return static struct while") {
			agrees(t, name, with(func(o *api.Object) { o.Symbols[at].Name = name }), false)
		}
		for other := range good().Symbols {
			agrees(t, "two alike", with(func(o *api.Object) { o.Symbols[at].Name = o.Symbols[other].Name }), at == other)
		}
	}
	agrees(t, "alike but for a letter", with(func(o *api.Object) { o.Symbols[1].Name = "b" }), true)
}

// R1: signs, of each kind of symbol.
func TestSigns(t *testing.T) {
	for at := range good().Symbols {
		sign := func(why, sign string, want bool) {
			t.Helper()
			agrees(t, why, with(func(o *api.Object) { o.Symbols[at].Sign = sign }), want)
		}
		for _, n := range []int{0, 1, 2, 1999, 2000, 2001, 4000} {
			sign(fmt.Sprint("bytes: ", n), strings.Repeat("x", n), n >= 1 && n <= 2000)
		}
		for b := range 256 {
			may := b >= 32 && b <= 126
			sign(fmt.Sprint("byte ", b), string([]byte{byte(b)}), may)
			sign(fmt.Sprint("byte ahead ", b), string([]byte{byte(b), 'x'}), may)
			sign(fmt.Sprint("byte amid ", b), string([]byte{'x', byte(b), 'x'}), may)
			sign(fmt.Sprint("byte last ", b), string([]byte{'x', byte(b)}), may)
		}
		// A rune is not a byte.
		sign("a rune", "\u00e4", false)
		// Nothing else is said of what stands there.
		sign("no type's text", "int int", true)
	}
}

// R1: kinds.
func TestKinds(t *testing.T) {
	for kind, want := range map[int]bool{0: false, 1: true, 2: false, 3: false, 4: false, 5: false, -1: false, 256 + 1: false, math.MaxInt: false, math.MinInt: false} {
		agrees(t, fmt.Sprint("kind ", kind, " with words of Code"), api.Object{Code: repeat(1, 0), Symbols: []api.Symbol{{Name: "f", Kind: kind, Size: 1, Sign: "x"}}}, want)
	}
	for kind, want := range map[int]bool{0: false, 1: false, 2: true, 3: false, 4: false, 5: false} {
		agrees(t, fmt.Sprint("kind ", kind, " with words of Data"), api.Object{Data: make([]int32, 1), Symbols: []api.Symbol{{Name: "f", Kind: kind, Size: 1, Sign: "x"}}}, want)
	}
	for kind, want := range map[int]bool{0: false, 1: false, 2: false, 3: true, 4: true, 5: false, -1: false, 1 << 31: false, math.MaxInt: false, math.MinInt: false} {
		agrees(t, fmt.Sprint("kind ", kind, " with no words"), api.Object{Symbols: []api.Symbol{{Name: "f", Kind: kind, Sign: "x"}}}, want)
	}
}

// laid is where two things lie: their At and Size.
type laid [4]int

// R1: where functions lie in Code, and variables in Data.
func TestWhereThingsLie(t *testing.T) {
	const most, least = math.MaxInt, math.MinInt
	for l, want := range map[laid]bool{
		{0, 2, 2, 3}: true,
		{0, 1, 1, 4}: true,
		{0, 4, 4, 1}: true,
		// A gap, or one over the other.
		{0, 2, 3, 2}: false,
		{0, 2, 3, 3}: false,
		{0, 2, 1, 4}: false,
		{0, 3, 2, 3}: false,
		{0, 5, 0, 5}: false,
		{0, 2, 0, 3}: false,
		// Not from 0 on, or not up to the end.
		{1, 2, 3, 2}:  false,
		{-1, 3, 2, 3}: false,
		{0, 2, 2, 2}:  false,
		{0, 2, 2, 4}:  false,
		{1, 2, 3, 3}:  false,
		// In the other order.
		{2, 3, 0, 2}: false,
		// Without words, or with fewer.
		{0, 0, 0, 5}:  false,
		{0, 5, 5, 0}:  false,
		{0, -1, 0, 5}: false,
		{0, 6, 6, -1}: false,
		{0, 6, 5, -1}: false,
		{0, 7, 7, -2}: false,
		// Great numbers, whose sums would go round.
		{0, most, most, 1}:            false,
		{0, most, most, 6}:            false,
		{0, most, least, 6}:           false,
		{0, most - 1, most - 1, 7}:    false,
		{0, most, most, least + 6}:    false,
		{0, least, least, least + 5}:  false,
		{0, 1, 1, most}:               false,
		{0, 1, 1, least}:              false,
		{0, 1 << 32, 1 << 32, 5}:      false,
		{1 << 32, 2, 2, 3}:            false,
		{0, 1<<32 + 2, 1<<32 + 2, 3}:  false,
		{0, 1<<31 + 2, 1<<31 + 2, 3}:  false,
		{0, 2, 2, 1<<32 + 3}:          false,
		{0, 2, 2 - 1<<31, 3}:          false,
		{most, 5, most, 5}:            false,
		{least, 5, least, 5}:          false,
		{0, 1<<62 + 2, 1<<62 + 2, 3}:  false,
		{0, 1<<62 + 3, 1<<62 + 3, -8}: false,
	} {
		code := api.Object{Code: repeat(5, 9), Symbols: []api.Symbol{fun("f", l[0], l[1]), fun("g", l[2], l[3])}}
		agrees(t, fmt.Sprint("functions ", l), code, want)
		words := api.Object{Data: make([]int32, 5), Symbols: []api.Symbol{data("f", l[0], l[1]), data("g", l[2], l[3])}}
		agrees(t, fmt.Sprint("variables ", l), words, want)
		// Beside things of the other kind, which lie elsewhere.
		code.Data, code.Symbols = []int32{4}, []api.Symbol{code.Symbols[0], data("v", 0, 1), code.Symbols[1]}
		agrees(t, fmt.Sprint("functions by turns ", l), code, want)
		words.Code, words.Symbols = repeat(1, 4), []api.Symbol{words.Symbols[0], fun("h", 0, 1), outFun("z"), words.Symbols[1]}
		agrees(t, fmt.Sprint("variables by turns ", l), words, want)
	}
}

// R1: words that are no symbol's, and symbols that have none.
func TestWordsWithoutSymbols(t *testing.T) {
	agrees(t, "a Code with no function", api.Object{Code: repeat(1, 0)}, false)
	agrees(t, "Data with no variable", api.Object{Data: []int32{0}}, false)
	agrees(t, "a Code with a variable", api.Object{Code: repeat(1, 0), Symbols: []api.Symbol{data("v", 0, 1)}}, false)
	agrees(t, "Data with a function", api.Object{Data: []int32{0}, Symbols: []api.Symbol{fun("f", 0, 1)}}, false)
	agrees(t, "a function without Code", api.Object{Symbols: []api.Symbol{fun("f", 0, 1)}}, false)
	agrees(t, "a function of no words", api.Object{Symbols: []api.Symbol{fun("f", 0, 0)}}, false)
	agrees(t, "a variable without Data", api.Object{Symbols: []api.Symbol{data("v", 0, 1)}}, false)
	agrees(t, "a variable of no words", api.Object{Symbols: []api.Symbol{data("v", 0, 0)}}, false)
	agrees(t, "Code alone is longer", with(func(o *api.Object) { o.Code = append(o.Code, 0) }), false)
	agrees(t, "Code alone is shorter", with(func(o *api.Object) { o.Code, o.Relocs = o.Code[:5], o.Relocs[:3] }), false)
	agrees(t, "Data alone is longer", with(func(o *api.Object) { o.Data = append(o.Data, 0) }), false)
	agrees(t, "Data alone is shorter", with(func(o *api.Object) { o.Data = o.Data[:2] }), false)
}

// R1: frames, and of what stands elsewhere all that such symbols do not have.
func TestFrames(t *testing.T) {
	for _, n := range []int{math.MinInt, -1 << 31, -1, 0, 1, 900, api.MaxMemory - 1, api.MaxMemory, api.MaxMemory + 1, 1 << 31, 1 << 32, math.MaxInt} {
		for at, s := range good().Symbols {
			agrees(t, fmt.Sprint("frame ", n, " of kind ", s.Kind), with(func(o *api.Object) { o.Symbols[at].Frame = n }), n == 0 || s.Kind == api.SymFun && n > 0 && n <= api.MaxMemory)
			if s.Kind == api.SymOutFun || s.Kind == api.SymOutData {
				agrees(t, fmt.Sprint("at ", n), with(func(o *api.Object) { o.Symbols[at].At = n }), n == 0)
				agrees(t, fmt.Sprint("size ", n), with(func(o *api.Object) { o.Symbols[at].Size = n }), n == 0)
			}
		}
	}
	for at, s := range good().Symbols {
		agrees(t, "static", with(func(o *api.Object) { o.Symbols[at].Static = true }), s.Kind == api.SymFun || s.Kind == api.SymData)
		agrees(t, "not static", with(func(o *api.Object) { o.Symbols[at].Static = false }), true)
	}
}

// R1: at which places relocs are.
func TestPlacesOfRelocs(t *testing.T) {
	ahead := api.Object{Code: repeat(6, calls()), Symbols: []api.Symbol{fun("f", 0, 6)}}
	of := func(places ...int) api.Object {
		o := ahead
		for _, at := range places {
			o.Relocs = append(o.Relocs, api.Reloc{At: at})
		}
		return o
	}
	for _, l := range [][]int{{}, {0}, {5}, {0, 1}, {0, 5}, {0, 1, 2, 3, 4, 5}, {2, 4}} {
		agrees(t, fmt.Sprint("places ", l), of(l...), true)
	}
	for _, l := range [][]int{{-1}, {6}, {0, 0}, {1, 0}, {5, 5}, {0, 2, 1}, {0, 2, 2}, {-1, 0}, {5, 6}, {0, -1}, {math.MaxInt}, {math.MinInt}, {1 << 32}, {0, 1<<32 + 1}, {-1 << 31}, {math.MinInt, math.MaxInt}} {
		agrees(t, fmt.Sprint("places ", l), of(l...), false)
	}
	agrees(t, "no Code", api.Object{Symbols: []api.Symbol{outFun("f")}, Relocs: []api.Reloc{{}}}, false)
}

// at is an object of one instruction, of which a reloc speaks.
func at(w uint32) api.Object {
	return api.Object{Code: []uint32{w}, Symbols: []api.Symbol{fun("f", 0, 1)}, Relocs: []api.Reloc{{}}}
}

// R1: at which instructions relocs are.
func TestInstructionsOfRelocs(t *testing.T) {
	for op := range 256 {
		want := op == api.IMovi || op == api.IJump || op == api.IZero || op == api.ICall
		agrees(t, fmt.Sprint("operation ", op), at(uint32(op)<<24), want)
	}
	for a := range 16 {
		agrees(t, "a register of movi", at(bits(api.Instr{Op: api.IMovi, A: a})), true)
		agrees(t, "a register of zero", at(bits(api.Instr{Op: api.IZero, A: a})), true)
		// Fields that these do not have: the bits are none's.
		agrees(t, "a register of jump", at(api.IJump<<24|uint32(a)<<20), a == 0)
		agrees(t, "a register of call", at(api.ICall<<24|uint32(a)<<20), a == 0)
		for _, op := range []uint32{api.IMovi, api.IJump, api.IZero, api.ICall} {
			agrees(t, "a second register", at(op<<24|uint32(a)<<16), a == 0)
		}
	}
	for _, op := range []uint32{api.IMovi, api.IJump, api.IZero, api.ICall} {
		for _, imm := range []uint32{1, 2, 0x7fff, 0x8000, 0xffff, 0x100} {
			w := op<<24 | imm
			if _, ok := code.Decode(w); !ok {
				t.Fatal(w)
			}
			agrees(t, fmt.Sprint("imm ", imm, " of ", op), at(w), false)
		}
	}
	// Where no reloc speaks of it, any word may stand.
	for _, w := range []uint32{0, 1, 0xffffffff, 0x80000000, api.ICall<<24 | 9} {
		o := at(w)
		o.Relocs = nil
		agrees(t, fmt.Sprint("no reloc at ", w), o, true)
	}
}

// R1: which symbols relocs name, and how much is added.
func TestSymbolsOfRelocs(t *testing.T) {
	last := len(good().Symbols) - 1
	for n, want := range map[int]bool{0: true, 1: true, last - 1: true, last: true, last + 1: false, -1: false, 1 << 31: false, 1 << 32: false, math.MaxInt: false, math.MinInt: false} {
		for at := range good().Relocs {
			agrees(t, fmt.Sprint("symbol ", n), with(func(o *api.Object) { o.Relocs[at].Symbol = n }), want)
		}
	}
	for n, want := range map[int]bool{0: true, 1: true, api.MaxCode - 1: true, api.MaxCode: true, api.MaxCode + 1: false, -1: false, -1 << 31: false, 1 << 31: false, 1 << 32: false, math.MaxInt: false, math.MinInt: false} {
		for at := range good().Relocs {
			agrees(t, fmt.Sprint("add ", n), with(func(o *api.Object) { o.Relocs[at].Add = n }), want)
		}
	}
	agrees(t, "relocs without symbols", api.Object{Relocs: []api.Reloc{{}}}, false)
	all := api.Object{Code: repeat(1, calls()), Symbols: append(numbered(399), fun("f", 0, 1)), Relocs: []api.Reloc{{Symbol: 399}}}
	agrees(t, "the last of all symbols", all, true)
	all.Relocs[0].Symbol = 400
	agrees(t, "behind the last of all symbols", all, false)
}

// R1: rows of things whose sizes together go round, and come to just the words that there are.
func TestSumsThatGoRound(t *testing.T) {
	const most, least = math.MaxInt, math.MinInt
	for _, l := range [][][2]int{
		{{0, 1}, {1, most}, {least, most}, {-1, 6}},
		{{0, most}, {most, most}, {-2, 7}},
		{{0, 5}, {5, most}, {least + 4, most}, {3, 2}},
		{{0, 1 << 62}, {1 << 62, 1 << 62}, {least, 1 << 62}, {-1 << 62, 1 << 62}, {0, 5}},
		{{0, 1 << 31}, {1 << 31, 1 << 31}, {1 << 32, 5}},
		{{0, 1 << 31}, {-1 << 31, 1 << 31}, {0, 5}},
		{{0, 1 << 32}, {0, 5}},
	} {
		code, words := api.Object{Code: repeat(5, 9)}, api.Object{Data: make([]int32, 5)}
		for n, x := range l {
			code.Symbols = append(code.Symbols, fun("f"+strconv.Itoa(n), x[0], x[1]))
			words.Symbols = append(words.Symbols, data("v"+strconv.Itoa(n), x[0], x[1]))
		}
		agrees(t, fmt.Sprint("functions ", l), code, false)
		agrees(t, fmt.Sprint("variables ", l), words, false)
	}
}
