package check_test

import (
	"scarfjoint/api"
	"scarfjoint/types"
)

// spot is a node where it stands: the chapter once more, in which each node looks for itself at what stands around it.
type spot struct {
	api.Node
	up   *spot
	nth  int // among the kids of up
	at   int // its number
	kids []*spot
}

// spots makes a node's, and numbers them.
func spots(n api.Node, up *spot, nth int, count *int) *spot {
	p := &spot{Node: n, up: up, nth: nth, at: *count}
	*count++
	for i, kid := range n.Kids {
		p.kids = append(p.kids, spots(kid, p, i, count))
	}
	return p
}

// order has all nodes as they are gone over.
func order(p *spot) []*spot {
	var l []*spot
	if p.Kind == api.NFun {
		last := len(p.kids) - 1
		for _, kid := range p.kids[:last] {
			l = append(l, order(kid)...)
		}
		return append(append(l, p), order(p.kids[last])...)
	}
	for _, kid := range p.kids {
		l = append(l, order(kid)...)
	}
	return append(l, p)
}

// reference tells the first fault of a unit, or the types of its nodes.
func reference(n api.Node) ([]string, api.Fault, int) {
	count := 0
	l := order(spots(n, nil, 0, &count))
	texts := make([]string, count)
	for _, p := range l {
		if e := p.fault(); e != api.OK {
			return nil, api.Fault{Code: e, At: p.at}, p.Kind
		}
		if p.isExpression() {
			texts[p.at] = types.Text(p.typ())
		}
	}
	return texts, api.Fault{}, 0
}

// declared tells the types of a unit's declarations.
func declared(n api.Node) []string {
	count := 0
	var l []string
	for _, p := range spots(n, nil, 0, &count).kids {
		l = append(l, types.Text(p.typ()))
	}
	return l
}

// isExpression says whether a node has a type's text: a global's number is as a number of an expression, but none itself.
func (p *spot) isExpression() bool {
	return p.Kind >= api.NNumber && p.up.Kind != api.NGlobal
}

// above is the nearest node of a kind around one, or none.
func (p *spot) above(kind int) *spot {
	for p != nil && p.Kind != kind {
		p = p.up
	}
	return p
}

// decl is the declaration that a node is in.
func (p *spot) decl() *spot {
	for p.up.up != nil {
		p = p.up
	}
	return p
}

// twin says whether a sibling ahead, of some kinds, has the same name.
func (p *spot) twin(kinds ...int) bool {
	for _, q := range p.up.kids[:p.nth] {
		for _, kind := range kinds {
			if q.Kind == kind && q.Text == p.Text {
				return true
			}
		}
	}
	return false
}

// structNamed finds a struct that is declared ahead.
func (p *spot) structNamed() *spot {
	d := p.decl()
	for _, q := range d.up.kids[:d.nth] {
		if q.Kind == api.NStruct && q.Text == p.Text {
			return q
		}
	}
	return nil
}

// localsAhead has the locals that a node may speak of, the innermost ones first.
func (p *spot) localsAhead() []*spot {
	var l []*spot
	for ; p.up != nil; p = p.up {
		if p.up.Kind == api.NBlock {
			for i := p.nth - 1; i >= 0; i-- {
				if q := p.up.kids[i]; q.Kind == api.NVar {
					l = append(l, q)
				}
			}
		}
		if p.Kind == api.NBlock && p.up.Kind == api.NFun {
			for _, q := range p.up.kids {
				if q.Kind == api.NParam {
					l = append(l, q)
				}
			}
		}
	}
	return l
}

// global finds what is declared of a node's name, be it a variable or a function.
func (p *spot) global() *spot {
	d := p.decl()
	for _, q := range d.up.kids[:d.nth+1] {
		if q.Kind == api.NStruct || q.Text != p.Text || q == d && q.Kind != api.NFun {
			continue
		}
		return q
	}
	return nil
}

func (p *spot) isFunction() bool {
	return p != nil && (p.Kind == api.NExtern || p.Kind == api.NFun)
}

// meant finds what an NName stands for.
func (p *spot) meant() *spot {
	for _, q := range p.localsAhead() {
		if q.Text == p.Text {
			return q
		}
	}
	return p.global()
}

var (
	whole = api.Type{Kind: api.TInt}
	wide  = api.Type{Kind: api.TLong}
)

func (p *spot) types() []api.Type {
	var l []api.Type
	for _, kid := range p.kids {
		if kid.Kind != api.NBlock {
			l = append(l, kid.typ())
		}
	}
	return l
}

// typ is the type that a node is, has or declares, if nothing below it is wrong.
func (p *spot) typ() api.Type {
	switch p.Kind {
	case api.NLongT, api.NLong, api.NToLong:
		return wide
	case api.NNamed, api.NMake:
		if q := p.structNamed(); q != nil {
			return q.typ()
		}
	case api.NFnT, api.NExtern:
		return api.Type{Kind: api.TFn, Parts: p.types(), Many: p.Num == 1}
	case api.NFun:
		return api.Type{Kind: api.TFn, Parts: p.types(), Many: p.Num > 1}
	case api.NStruct:
		var names []string
		for _, kid := range p.kids {
			names = append(names, kid.Text)
		}
		return api.Type{Kind: api.TStruct, Name: p.Text, Names: names, Parts: p.types()}
	case api.NField, api.NParam, api.NOutside, api.NGlobal, api.NVar, api.NNeg:
		return p.kids[0].typ()
	case api.NName:
		if q := p.meant(); q != nil {
			return q.typ()
		}
	case api.NAddr:
		if q := p.global(); q.isFunction() {
			return q.typ()
		}
	case api.NDot:
		t := p.kids[0].typ()
		for i, name := range t.Names {
			if name == p.Text {
				return t.Parts[i]
			}
		}
	case api.NCall:
		parts := p.kids[0].typ().Parts
		return parts[len(parts)-1]
	case api.NOp:
		if p.Num != api.OpSame && p.Num != api.OpLess {
			return p.kids[0].typ()
		}
		return whole
	default:
		return whole
	}
	return api.Type{}
}

// sum is how many words some nodes' types have.
func sum(l []*spot) int {
	words := 0
	for _, p := range l {
		words += types.Words(p.typ())
	}
	return words
}

func isNumber(t api.Type) bool {
	return types.Same(t, whole) || types.Same(t, wide)
}

func pick(wrong bool, e api.Errno, others api.Errno) api.Errno {
	if wrong {
		return e
	}
	return others
}

// fault tells the first one of a node's own.
func (p *spot) fault() api.Errno {
	switch p.Kind {
	case api.NNamed:
		return pick(p.structNamed() == nil, api.ErrName, api.OK)
	case api.NFnT:
		return pick(!types.May(p.typ()), api.ErrSize, api.OK)
	case api.NStruct:
		return pick(p.twin(api.NStruct), api.ErrTwice, pick(!types.May(p.typ()), api.ErrSize, api.OK))
	case api.NField:
		return pick(p.twin(api.NField), api.ErrTwice, api.OK)
	case api.NParam:
		return pick(p.twin(api.NParam), api.ErrTwice, api.OK)
	case api.NExtern, api.NFun:
		params := p.kids[:len(p.kids)-1]
		if p.Kind == api.NFun {
			params = params[:len(params)-1]
		}
		large := !types.May(p.typ()) || p.Kind == api.NFun && sum(params) > api.MaxLocals
		return pick(p.twin(api.NExtern, api.NFun, api.NOutside, api.NGlobal), api.ErrTwice, pick(large, api.ErrSize, api.OK))
	case api.NOutside, api.NGlobal:
		t := p.typ()
		other := !isNumber(t) || p.Kind == api.NGlobal && (t.Kind == api.TInt) != (p.kids[1].Kind == api.NNumber)
		return pick(p.twin(api.NExtern, api.NFun, api.NOutside, api.NGlobal), api.ErrTwice, pick(other, api.ErrKind, api.OK))
	case api.NVar:
		return p.variableFault()
	case api.NSet:
		return pick(!types.Same(p.kids[0].typ(), p.kids[1].typ()), api.ErrKind, api.OK)
	case api.NIf, api.NWhile:
		return pick(!types.Same(p.kids[0].typ(), whole), api.ErrKind, api.OK)
	case api.NReturn:
		f := p.above(api.NFun)
		return pick(!types.Same(p.kids[0].typ(), f.kids[len(f.kids)-2].typ()), api.ErrKind, api.OK)
	case api.NPut:
		return pick(!isNumber(p.kids[0].typ()), api.ErrKind, api.OK)
	case api.NBlock:
		ends := len(p.kids) > 0 && p.kids[len(p.kids)-1].Kind == api.NReturn
		return pick(p.up.Kind == api.NFun && !ends, api.ErrForm, api.OK)
	}
	return p.expressionFault()
}

func (p *spot) variableFault() api.Errno {
	twice := p.twin(api.NVar)
	if p.up.up.Kind == api.NFun {
		for _, q := range p.up.up.kids {
			twice = twice || q.Kind == api.NParam && q.Text == p.Text
		}
	}
	other := !types.Same(p.typ(), p.kids[1].typ())
	large := sum(p.localsAhead())+types.Words(p.typ()) > api.MaxLocals
	return pick(twice, api.ErrTwice, pick(other, api.ErrKind, pick(large, api.ErrSize, api.OK)))
}

func (p *spot) expressionFault() api.Errno {
	switch p.Kind {
	case api.NName:
		called := p.up.Kind == api.NCall && p.nth == 0
		q := p.meant()
		return pick(q == nil, api.ErrName, pick(q.isFunction() && !called, api.ErrKind, api.OK))
	case api.NAddr:
		return pick(!p.global().isFunction(), api.ErrName, api.OK)
	case api.NNeg, api.NToInt, api.NToLong:
		return pick(!isNumber(p.kids[0].typ()), api.ErrKind, api.OK)
	case api.NNot:
		return pick(!types.Same(p.kids[0].typ(), whole), api.ErrKind, api.OK)
	case api.NOp:
		a, b := p.kids[0].typ(), p.kids[1].typ()
		other := !isNumber(a) || !types.Same(a, b) || a.Kind == api.TLong && (p.Num == api.OpDiv || p.Num == api.OpRem)
		return pick(other, api.ErrKind, api.OK)
	case api.NDot:
		none := p.typ().Kind == 0
		return pick(p.kids[0].typ().Kind != api.TStruct, api.ErrKind, pick(none, api.ErrName, api.OK))
	case api.NMake:
		q := p.structNamed()
		if q == nil {
			return api.ErrName
		}
		return pick(len(p.kids) != len(q.kids), api.ErrRange, pick(p.others(q.types()), api.ErrKind, api.OK))
	case api.NCall:
		return p.callFault()
	case api.NCount, api.NExtra:
		other := p.Kind == api.NExtra && !types.Same(p.kids[0].typ(), whole)
		return pick(p.above(api.NFun).Num < 2, api.ErrForm, pick(other, api.ErrKind, api.OK))
	}
	return api.OK
}

// others says whether one of a node's kids is of another type than is asked for.
func (p *spot) others(want []api.Type) bool {
	for i, t := range p.types() {
		if i < len(want) && !types.Same(t, want[i]) {
			return true
		}
	}
	return false
}

func (p *spot) callFault() api.Errno {
	t := p.kids[0].typ()
	if t.Kind != api.TFn {
		return api.ErrKind
	}
	params, arguments := len(t.Parts)-1, len(p.kids)-1
	if arguments < params || arguments > params && !t.Many {
		return api.ErrRange
	}
	for i, kid := range p.kids[1:] {
		if i < params && !types.Same(kid.typ(), t.Parts[i]) || i >= params && !isNumber(kid.typ()) {
			return api.ErrKind
		}
	}
	return pick(arguments-params > api.MaxParams, api.ErrSize, api.OK)
}
