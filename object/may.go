package object

import (
	"scarfjoint/api"
	"scarfjoint/code"
	"scarfjoint/types"
)

// What an object has at most; package api has no words for these.
const (
	mostSymbols = 400
	longestSign = 2000
)

// May says whether an object may be.
func May(o api.Object) bool {
	few := len(o.Code) <= api.MaxCode && len(o.Data) <= api.MaxMemory && len(o.Symbols) <= mostSymbols && len(o.Relocs) <= api.MaxCode
	return few && symbolsMay(o.Symbols) && fill(o.Symbols, api.SymFun, len(o.Code)) && fill(o.Symbols, api.SymData, len(o.Data)) && relocsMay(o)
}

// symbolsMay says whether each symbol may be, and no two have the same name.
func symbolsMay(l []api.Symbol) bool {
	seen := map[string]int{}
	for at, s := range l {
		if _, twice := seen[s.Name]; twice || !symbolMay(s) {
			return false
		}
		seen[s.Name] = at
	}
	return true
}

// symbolMay says whether a symbol may be, wherever it lies.
func symbolMay(s api.Symbol) bool {
	if !types.Name(s.Name) || !signMay(s.Sign) {
		return false
	}
	switch s.Kind {
	case api.SymFun:
		return s.Frame >= 0 && s.Frame <= api.MaxMemory
	case api.SymData:
		return s.Frame == 0
	case api.SymOutFun, api.SymOutData:
		return s == api.Symbol{Name: s.Name, Kind: s.Kind, Sign: s.Sign}
	}
	return false
}

// signMay says whether a text may be a symbol's Sign.
func signMay(sign string) bool {
	if len(sign) < 1 || len(sign) > longestSign {
		return false
	}
	for at := range len(sign) {
		if sign[at] < 32 || sign[at] > 126 {
			return false
		}
	}
	return true
}

// fill says whether the symbols of a kind lie one behind the other, from 0 on, up to just so many words.
func fill(l []api.Symbol, kind, words int) bool {
	next := 0
	for _, s := range l {
		if s.Kind != kind {
			continue
		}
		if s.At != next || s.Size < 1 || s.Size > words-next {
			return false
		}
		next += s.Size
	}
	return next == words
}

// relocsMay says whether relocs speak of instructions and symbols of their object, in order.
func relocsMay(o api.Object) bool {
	last := -1
	for _, r := range o.Relocs {
		if r.At <= last || r.At >= len(o.Code) || !isOpen(o.Code[r.At]) {
			return false
		}
		if r.Symbol < 0 || r.Symbol >= len(o.Symbols) || r.Add < 0 || r.Add > api.MaxCode {
			return false
		}
		last = r.At
	}
	return true
}

// isOpen says whether bits are those of an instruction that may speak of an address, and of none yet.
func isOpen(bits uint32) bool {
	i, _ := code.Decode(bits)
	switch i.Op {
	case api.IMovi, api.IJump, api.IZero, api.ICall:
		return i.Imm == 0
	}
	return false
}
