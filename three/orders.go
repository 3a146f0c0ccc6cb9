package three

import (
	"math"
	"slices"

	"scarfjoint/api"
	"scarfjoint/types"
)

// isFunction says whether a type is a function's that may be.
func isFunction(t api.Type) bool {
	return t.Kind == api.TFn && types.May(t)
}

// words tells how many words the parameters of a function's type have, and how many its result has.
func words(t api.Type) (int, int) {
	last := len(t.Parts) - 1
	params := 0
	for _, part := range t.Parts[:last] {
		params += types.Words(part)
	}
	return params, types.Words(t.Parts[last])
}

// headMay says whether all of a body but its orders may be; of those it asks how many there are, and that the last one leads to none behind it.
func headMay(b api.Body) bool {
	if !types.Name(b.Name) || !isFunction(b.Type) {
		return false
	}
	if params, _ := words(b.Type); b.Regs < params || b.Regs > api.MaxRegs {
		return false
	}
	if len(b.Code) < 1 || len(b.Code) > api.MaxCode {
		return false
	}
	last := b.Code[len(b.Code)-1].Op
	return last == api.TJump || last == api.TReturn
}

// ordersMay says whether the orders of a body may be, whose head may.
func ordersMay(b api.Body) bool {
	_, result := words(b.Type)
	for _, o := range b.Code {
		r, ok := rowOf(b, result, o)
		if !ok || !r.fields(o) || !r.registers(o, b.Regs) {
			return false
		}
	}
	return true
}

// row is what an order's fields may be.
type row struct {
	d, s, more   int // how many registers are in D and in S, and how many more may be in S
	least, most  int // what N is from and to: a row that does not name it has 0
	named, typed bool
}

// rowOf gives an order's row, if it may stand in that body, whose result has so many words.
func rowOf(b api.Body, result int, o api.Three) (row, bool) {
	switch o.Op {
	case api.TConst:
		return row{d: 1, least: math.MinInt32, most: math.MaxInt32}, true
	case api.TCopy:
		return row{d: 1, s: 1}, true
	case api.TWord:
		return row{d: 1, s: 2, least: api.OpAdd, most: api.OpSame}, true
	case api.TLoad:
		return row{d: 1, most: 1, named: true}, true
	case api.TStore:
		return row{s: 1, most: 1, named: true}, true
	case api.TAddr:
		return row{d: 1, named: true}, true
	case api.TCall:
		return callRow(row{named: true}, o.Type)
	case api.TCallr:
		return callRow(row{s: 1}, o.Type)
	case api.TJump:
		return row{most: len(b.Code) - 1}, true
	case api.TZero:
		return row{s: 1, most: len(b.Code) - 1}, true
	case api.TPut:
		return row{s: 1}, true
	case api.TReturn:
		return row{s: result}, true
	case api.TCount:
		return row{d: 1}, b.Type.Many
	case api.TExtra:
		return row{d: 1, s: 1}, b.Type.Many
	}
	return row{}, false
}

// callRow gives the row of a call by its type, from what it has beside that.
func callRow(r row, t api.Type) (row, bool) {
	if !isFunction(t) {
		return row{}, false
	}
	params, result := words(t)
	r.typed = true
	r.d += result
	r.s += params
	if t.Many {
		r.more = 2 * api.MaxParams
	}
	return r, true
}

// fields says whether an order's N, Name and Type are as its row says. A Name may be any text: whether a unit gives it is asked later.
func (r row) fields(o api.Three) bool {
	return r.least <= o.N && o.N <= r.most && (r.named || o.Name == "") && (r.typed || isNone(o.Type))
}

// isNone says whether a type is zero.
func isNone(t api.Type) bool {
	return t.Kind == 0 && t.Name == "" && len(t.Names) == 0 && len(t.Parts) == 0 && !t.Many
}

// registers says whether an order's registers are as its row says. No row but a call's has two in D, so that it is asked of all that no two are alike.
func (r row) registers(o api.Three, regs int) bool {
	if len(o.D) != r.d || len(o.S) < r.s || len(o.S) > r.s+r.more {
		return false
	}
	beyond := func(register int) bool { return register < 0 || register >= regs }
	if slices.ContainsFunc(o.D, beyond) || slices.ContainsFunc(o.S, beyond) {
		return false
	}
	for at, register := range o.D {
		if slices.Contains(o.D[:at], register) {
			return false
		}
	}
	return true
}
