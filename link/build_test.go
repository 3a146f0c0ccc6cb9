package link_test

import (
	"fmt"
	"strconv"
	"strings"

	"scarfjoint/api"
	"scarfjoint/code"
)

// part is of an object: a function, a variable, or what stands elsewhere.
type part struct {
	api.Symbol
	code []string // instructions; in place of an Imm @name, or @name+n, is a reloc
	data []int32
}

func fun(name string, code ...string) part {
	return part{Symbol: api.Symbol{Name: name, Kind: api.SymFun, Size: len(code), Sign: "fn()int"}, code: code}
}

func variable(name string, data ...int32) part {
	return part{Symbol: api.Symbol{Name: name, Kind: api.SymData, Size: len(data), Sign: "int"}, data: data}
}

func outFun(name string) part {
	return part{Symbol: api.Symbol{Name: name, Kind: api.SymOutFun, Sign: "fn()int"}}
}

func outVariable(name string) part {
	return part{Symbol: api.Symbol{Name: name, Kind: api.SymOutData, Sign: "int"}}
}

// static is a part that is its object's alone.
func static(p part) part {
	p.Static = true
	return p
}

// signed is a part with another Sign.
func signed(p part, sign string) part {
	p.Sign = sign
	return p
}

// framed is a function with a frame.
func framed(p part, words int) part {
	p.Frame = words
	return p
}

// start is a function main of one instruction.
func start() part {
	return fun("main", "jumpr r14")
}

// objectOf is one of such parts, in their order.
func objectOf(parts ...part) api.Object {
	var o api.Object
	numbers := map[string]int{}
	for at, p := range parts {
		numbers[p.Name] = at
	}
	for _, p := range parts {
		add(&o, p, numbers)
	}
	return o
}

// add adds a part to an object whose symbols have these numbers.
func add(o *api.Object, p part, numbers map[string]int) {
	switch p.Kind {
	case api.SymFun:
		p.At = len(o.Code)
	case api.SymData:
		p.At = len(o.Data)
	}
	o.Symbols = append(o.Symbols, p.Symbol)
	o.Data = append(o.Data, p.data...)
	for _, line := range p.code {
		ahead, about, is := strings.Cut(line, "@")
		if is {
			name, more, _ := strings.Cut(about, "+")
			number, ok := numbers[name]
			n, err := strconv.Atoi("0" + more)
			if !ok || err != nil {
				panic(line)
			}
			o.Relocs = append(o.Relocs, api.Reloc{At: len(o.Code), Symbol: number, Add: n})
			line = ahead + "0"
		}
		o.Code = append(o.Code, word(line))
	}
}

// word is the bits of an instruction that is told by its text.
func word(text string) uint32 {
	i, e := code.Read(text)
	bits, more := code.Encode(i)
	if e != api.OK || more != api.OK {
		panic(text)
	}
	return bits
}

// words are the bits of instructions.
func words(texts ...string) []uint32 {
	var l []uint32
	for _, text := range texts {
		l = append(l, word(text))
	}
	return l
}

// all is a list of objects.
func all(l ...api.Object) []api.Object { return l }

// told writes something; no more than the beginning of what is long.
func told(v any) string {
	return fmt.Sprintf("%.900s", fmt.Sprintf("%+v", v))
}
