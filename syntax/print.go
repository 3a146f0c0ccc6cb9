package syntax

import (
	"math"
	"strconv"
	"strings"

	"scarfjoint/api"
	"scarfjoint/types"
)

// shape is what a node of a kind has beside its kids' own kinds: whether Text is a name (it is "" else), Num at most, how many kids.
type shape struct {
	name        bool
	num         int64
	least, most int
}

// several stands for any number of kids: no node that fits has more.
const several = api.MaxNodes

// shapes has each kind's at its number; 0 is no kind.
var shapes = [...]shape{
	api.NUnit:    {false, 0, 0, several},
	api.NStruct:  {true, 0, 1, several},
	api.NField:   {true, 0, 1, 1},
	api.NExtern:  {true, 1, 1, several},
	api.NOutside: {true, 0, 1, 1},
	api.NGlobal:  {true, 1, 2, 2},
	api.NFun:     {true, 3, 2, several},
	api.NParam:   {true, 0, 1, 1},
	api.NInt:     {false, 0, 0, 0},
	api.NLongT:   {false, 0, 0, 0},
	api.NNamed:   {true, 0, 0, 0},
	api.NFnT:     {false, 1, 1, several},
	api.NBlock:   {false, 0, 0, several},
	api.NVar:     {true, 0, 2, 2},
	api.NSet:     {false, 0, 2, 2},
	api.NIf:      {false, 0, 2, 3},
	api.NWhile:   {false, 0, 2, 2},
	api.NReturn:  {false, 0, 1, 1},
	api.NPut:     {false, 0, 1, 1},
	api.NDo:      {false, 0, 1, 1},
	api.NNumber:  {false, api.MaxNumber, 0, 0},
	api.NLong:    {false, math.MaxInt64, 0, 0},
	api.NName:    {true, 0, 0, 0},
	api.NDot:     {true, 0, 1, 1},
	api.NCall:    {false, 0, 1, several},
	api.NAddr:    {true, 0, 0, 0},
	api.NMake:    {true, 0, 0, several},
	api.NNeg:     {false, 0, 1, 1},
	api.NNot:     {false, 0, 1, 1},
	api.NToInt:   {false, 0, 1, 1},
	api.NToLong:  {false, 0, 1, 1},
	api.NOp:      {false, api.OpSame, 2, 2},
	api.NCount:   {false, 0, 0, 0},
	api.NExtra:   {false, 0, 1, 1},
}

// strange is thrown where no text has such a node at such a place.
type strange struct{}

// printer writes a unit's tokens in a row.
type printer struct{ tokens []string }

// printed writes a node that fits.
func printed(n api.Node) (text string, e api.Errno) {
	defer func() {
		switch recover().(type) {
		case strange:
			e = api.ErrForm
		}
	}()
	var p printer
	p.unit(n)
	return strings.Join(p.tokens, " "), api.OK
}

// know gives up a node that no text has, whatever its kids are.
func know(n api.Node) {
	if n.Kind < api.NUnit || n.Kind >= len(shapes) {
		panic(strange{})
	}
	s := shapes[n.Kind]
	textFits := n.Text == ""
	if s.name {
		textFits = types.Name(n.Text)
	}
	if !textFits || n.Num < 0 || n.Num > s.num || len(n.Kids) < s.least || len(n.Kids) > s.most {
		panic(strange{})
	}
}

// knowKind gives up a node that is of another kind, too.
func knowKind(n api.Node, kind int) {
	if n.Kind != kind {
		panic(strange{})
	}
	know(n)
}

func (p *printer) add(tokens ...string) {
	p.tokens = append(p.tokens, tokens...)
}

// parts writes parts with commas between.
func (p *printer) parts(part func(api.Node), l []api.Node) {
	for at, n := range l {
		if at > 0 {
			p.add(",")
		}
		part(n)
	}
}

// openParts writes parts in parentheses, of which ... is the last where many is 1.
func (p *printer) openParts(part func(api.Node), l []api.Node, many int64) {
	p.add("(")
	p.parts(part, l)
	if many == 1 && len(l) > 0 {
		p.add(",")
	}
	if many == 1 {
		p.add("...")
	}
	p.add(")")
}

func (p *printer) unit(n api.Node) {
	knowKind(n, api.NUnit)
	for _, kid := range n.Kids {
		p.decl(kid)
	}
}

func (p *printer) decl(n api.Node) {
	know(n)
	switch n.Kind {
	case api.NStruct:
		p.structure(n)
	case api.NExtern:
		p.add("extern")
		p.function(n.Kids, n.Text, n.Num)
		p.add(";")
	case api.NOutside:
		p.add("extern")
		p.typed(n)
		p.add(";")
	case api.NGlobal:
		p.static(n.Num)
		p.typed(n)
		p.add("=")
		p.value(n.Kids[1])
		p.add(";")
	case api.NFun:
		block := len(n.Kids) - 1
		p.static(n.Num % 2)
		p.function(n.Kids[:block], n.Text, n.Num/2)
		p.block(n.Kids[block])
	default:
		panic(strange{})
	}
}

func (p *printer) structure(n api.Node) {
	p.add("struct", n.Text, "{")
	for _, kid := range n.Kids {
		knowKind(kid, api.NField)
		p.typed(kid)
		p.add(";")
	}
	p.add("}")
}

func (p *printer) static(static int64) {
	if static == 1 {
		p.add("static")
	}
}

// typed writes a node's type, which is its first kid, and its name.
func (p *printer) typed(n api.Node) {
	p.typ(n.Kids[0])
	p.add(n.Text)
}

// function writes what stands ahead of a function's block; of its kids the last is its result's type.
func (p *printer) function(kids []api.Node, name string, many int64) {
	result := len(kids) - 1
	p.typ(kids[result])
	p.add(name)
	p.openParts(p.param, kids[:result], many)
}

func (p *printer) param(n api.Node) {
	knowKind(n, api.NParam)
	p.typed(n)
}

// value writes a number that may be below 0. The least long has no counterpart: it stays below 0, and is given up.
func (p *printer) value(n api.Node) {
	if n.Num < 0 {
		p.add("-")
		n.Num = -n.Num
	}
	p.number(n)
}

func (p *printer) number(n api.Node) {
	know(n)
	digits := strconv.FormatInt(n.Num, 10)
	switch n.Kind {
	case api.NLong:
		digits += "L"
		fallthrough
	case api.NNumber:
		p.add(digits)
	default:
		panic(strange{})
	}
}

func (p *printer) typ(n api.Node) {
	know(n)
	switch n.Kind {
	case api.NInt:
		p.add("int")
	case api.NLongT:
		p.add("long")
	case api.NNamed:
		p.add(n.Text)
	case api.NFnT:
		result := len(n.Kids) - 1
		p.add("fn")
		p.openParts(p.typ, n.Kids[:result], n.Num)
		p.typ(n.Kids[result])
	default:
		panic(strange{})
	}
}

func (p *printer) block(n api.Node) {
	knowKind(n, api.NBlock)
	p.add("{")
	for _, kid := range n.Kids {
		p.stat(kid)
	}
	p.add("}")
}

func (p *printer) stat(n api.Node) {
	know(n)
	switch n.Kind {
	case api.NIf:
		p.inside("if", n)
		p.block(n.Kids[1])
		if len(n.Kids) == 3 {
			p.add("else")
			p.block(n.Kids[2])
		}
	case api.NWhile:
		p.inside("while", n)
		p.block(n.Kids[1])
	default:
		p.ended(n)
		p.add(";")
	}
}

// ended writes a statement that a sign ends.
func (p *printer) ended(n api.Node) {
	switch n.Kind {
	case api.NVar:
		p.typed(n)
		p.add("=")
		p.expr(n.Kids[1])
	case api.NSet:
		p.beginning(n.Kids[0], isPlace)
		p.add("=")
		p.expr(n.Kids[1])
	case api.NReturn:
		p.add("return")
		p.expr(n.Kids[0])
	case api.NPut:
		p.inside("put", n)
	case api.NDo:
		p.beginning(n.Kids[0], isCall)
	default:
		panic(strange{})
	}
}

// beginning writes an expression that a statement begins with. It is known ahead of being asked what it is, which looks at its kids.
func (p *printer) beginning(n api.Node, may func(api.Node) bool) {
	p.expr(n)
	if !may(n) {
		panic(strange{})
	}
}

// inside writes a word, and behind it a node's first kid in parentheses.
func (p *printer) inside(word string, n api.Node) {
	p.add(word, "(")
	p.expr(n.Kids[0])
	p.add(")")
}

func (p *printer) expr(n api.Node) {
	know(n)
	switch n.Kind {
	case api.NName:
		p.add(n.Text)
	case api.NDot:
		p.part(n.Kids[0], closed)
		p.add(".", n.Text)
	case api.NCall:
		p.part(n.Kids[0], closed)
		p.openParts(p.expr, n.Kids[1:], 0)
	case api.NAddr:
		p.add("&", n.Text)
	case api.NMake:
		p.add(n.Text, "{")
		p.parts(p.expr, n.Kids)
		p.add("}")
	case api.NNeg:
		p.add("-")
		p.part(n.Kids[0], signed)
	case api.NNot:
		p.add("!")
		p.part(n.Kids[0], signed)
	case api.NToInt:
		p.inside("int", n)
	case api.NToLong:
		p.inside("long", n)
	case api.NOp:
		p.operation(n)
	case api.NCount:
		p.add("count")
	case api.NExtra:
		p.inside("extra", n)
	default:
		p.number(n)
	}
}

// operation writes two parts with an operator between. Those ahead are together first, but that == and < stand once in a row.
func (p *printer) operation(n api.Node) {
	o := operatorOf(n)
	left := o.firm
	if left == compared {
		left = summed
	}
	p.part(n.Kids[0], left)
	p.add(o.sign)
	p.part(n.Kids[1], o.firm+1)
}

func operatorOf(n api.Node) operator {
	for _, o := range operators {
		if o.op == n.Num {
			return o
		}
	}
	panic(strange{})
}

// part writes a part of an expression, in parentheses if it is not as firm as is asked for.
func (p *printer) part(n api.Node, firm int) {
	if firmness(n) >= firm {
		p.expr(n)
		return
	}
	p.add("(")
	p.expr(n)
	p.add(")")
}

func firmness(n api.Node) int {
	switch n.Kind {
	case api.NOp:
		return operatorOf(n).firm
	case api.NNeg, api.NNot:
		return signed
	}
	return closed
}
