package syntax

import (
	"strconv"

	"scarfjoint/api"
	"scarfjoint/types"
)

// Why a text is no unit.
type (
	wrong api.Token // a token that no unit has behind the ones ahead of it
	short struct{}  // a unit's beginning alone
)

// word is what a type's word stands for: the type, or, ahead of parentheses, a value that is made one of it.
type word struct{ named, made int }

// parser takes tokens from the left. It asks of each token all that may stand there ahead of giving up, so that the first one that may not is told.
type parser struct {
	tokens []api.Token
	two    map[string]word
}

// parsed reads the tokens of a text of so many bytes.
func parsed(tokens []api.Token, bytes int) (n api.Node, fault api.Fault) {
	defer func() {
		switch thrown := recover().(type) {
		case wrong:
			fault = api.Fault{Code: api.ErrForm, At: thrown.At}
		case short:
			fault = api.Fault{Code: api.ErrForm, At: bytes}
		}
	}()
	p := &parser{tokens: tokens, two: map[string]word{
		"int":  {api.NInt, api.NToInt},
		"long": {api.NLongT, api.NToLong},
	}}
	return p.unit(), api.Fault{}
}

// giveUp tells that no unit goes on as the text does here.
func (p *parser) giveUp() {
	if len(p.tokens) == 0 {
		panic(short{})
	}
	panic(wrong(p.tokens[0]))
}

// text is the text of the token that is next, "" at the end. No number is written as a word or a sign is.
func (p *parser) text() string {
	if len(p.tokens) == 0 {
		return ""
	}
	return p.tokens[0].Text
}

// pass goes on behind the token that is next.
func (p *parser) pass() {
	p.tokens = p.tokens[1:]
}

// takes goes on behind a word or a sign, if it is next.
func (p *parser) takes(text string) bool {
	if p.text() != text {
		return false
	}
	p.pass()
	return true
}

// ask goes on behind words and signs that must be next, one behind the other.
func (p *parser) ask(texts ...string) {
	for _, text := range texts {
		if !p.takes(text) {
			p.giveUp()
		}
	}
}

// isName says whether the token at a place from here on is a name.
func (p *parser) isName(at int) bool {
	return at < len(p.tokens) && types.Name(p.tokens[at].Text)
}

func (p *parser) name() string {
	if !p.isName(0) {
		p.giveUp()
	}
	name := p.text()
	p.pass()
	return name
}

// number takes a KNumber or a KLong.
func (p *parser) number() api.Node {
	if len(p.tokens) == 0 {
		p.giveUp()
	}
	n := api.Node{Kind: api.NNumber}
	switch p.tokens[0].Kind {
	case api.KLong:
		n.Kind = api.NLong
		fallthrough
	case api.KNumber:
		// Scan has no number that is too great, so that there is no error.
		n.Num, _ = strconv.ParseInt(p.text(), 10, 64)
		p.pass()
	default:
		p.giveUp()
	}
	return n
}

// parts takes what stands between commas, and the sign that closes it.
func (p *parser) parts(part func() api.Node, closing string) []api.Node {
	if p.takes(closing) {
		return nil
	}
	l := []api.Node{part()}
	for p.takes(",") {
		l = append(l, part())
	}
	p.ask(closing)
	return l
}

// openParts takes parts in parentheses, of which ... may be the last: many is 1 then.
func (p *parser) openParts(part func() api.Node) (l []api.Node, many int64) {
	p.ask("(")
	if p.takes(")") {
		return nil, 0
	}
	for {
		if p.takes("...") {
			many = 1
			break
		}
		l = append(l, part())
		if !p.takes(",") {
			break
		}
	}
	p.ask(")")
	return l, many
}

func (p *parser) unit() api.Node {
	n := api.Node{Kind: api.NUnit}
	for len(p.tokens) > 0 {
		n.Kids = append(n.Kids, p.decl())
	}
	return n
}

func (p *parser) decl() api.Node {
	switch {
	case p.takes("struct"):
		return p.structure()
	case p.takes("extern"):
		return p.extern()
	case p.takes("static"):
		return p.defined(1)
	}
	return p.defined(0)
}

func (p *parser) structure() api.Node {
	n := api.Node{Kind: api.NStruct, Text: p.name()}
	p.ask("{")
	for {
		n.Kids = append(n.Kids, p.typed(api.NField))
		p.ask(";")
		if p.takes("}") {
			return n
		}
	}
}

// typed takes a type and a name.
func (p *parser) typed(kind int) api.Node {
	t := p.typ()
	return api.Node{Kind: kind, Text: p.name(), Kids: []api.Node{t}}
}

func (p *parser) param() api.Node {
	return p.typed(api.NParam)
}

func (p *parser) extern() api.Node {
	n := p.typed(api.NOutside)
	if p.takes(";") {
		return n
	}
	p.function(&n)
	n.Kind = api.NExtern
	p.ask(";")
	return n
}

// function takes a function's parameters; its node has the type already, which stands behind them.
func (p *parser) function(n *api.Node) {
	params, many := p.openParts(p.param)
	n.Num = many
	n.Kids = append(params, n.Kids...)
}

// defined takes what has its value, or its block, here.
func (p *parser) defined(static int64) api.Node {
	n := p.typed(api.NGlobal)
	if p.takes("=") {
		n.Num = static
		n.Kids = append(n.Kids, p.value())
		p.ask(";")
		return n
	}
	p.function(&n)
	n.Kind = api.NFun
	n.Num = static + 2*n.Num
	n.Kids = append(n.Kids, p.block())
	return n
}

// value takes a number that may have its sign ahead.
func (p *parser) value() api.Node {
	below := p.takes("-")
	n := p.number()
	if below {
		n.Num = -n.Num
	}
	return n
}

func (p *parser) typ() api.Node {
	if p.takes("fn") {
		parts, many := p.openParts(p.typ)
		return api.Node{Kind: api.NFnT, Num: many, Kids: append(parts, p.typ())}
	}
	if w, ok := p.two[p.text()]; ok {
		p.pass()
		return api.Node{Kind: w.named}
	}
	return api.Node{Kind: api.NNamed, Text: p.name()}
}

func (p *parser) block() api.Node {
	n := api.Node{Kind: api.NBlock}
	p.ask("{")
	for !p.takes("}") {
		n.Kids = append(n.Kids, p.stat())
	}
	return n
}

func (p *parser) stat() api.Node {
	switch p.text() {
	case "if":
		n := node(api.NIf, p.inside("if"), p.block())
		if p.takes("else") {
			n.Kids = append(n.Kids, p.block())
		}
		return n
	case "while":
		return node(api.NWhile, p.inside("while"), p.block())
	case "return":
		p.pass()
		return p.ended(node(api.NReturn, p.expr()))
	case "put":
		return p.ended(node(api.NPut, p.inside("put")))
	}
	if p.isName(0) && !p.isName(1) {
		return p.ended(p.setOrDo())
	}
	n := p.typed(api.NVar)
	p.ask("=")
	n.Kids = append(n.Kids, p.expr())
	return p.ended(n)
}

// node makes one of kids; Go asks for them from the left, as they stand.
func node(kind int, kids ...api.Node) api.Node {
	return api.Node{Kind: kind, Kids: kids}
}

// ended takes the sign that ends a statement.
func (p *parser) ended(n api.Node) api.Node {
	p.ask(";")
	return n
}

// setOrDo takes a statement that begins with a place or with a call: which of them it is, is known only behind it.
func (p *parser) setOrDo() api.Node {
	n := p.behind(api.Node{Kind: api.NName, Text: p.name()})
	if isCall(n) {
		return node(api.NDo, n)
	}
	if !isPlace(n) {
		p.giveUp()
	}
	p.ask("=")
	return node(api.NSet, n, p.expr())
}

func (p *parser) expr() api.Node {
	n := p.sum()
	if op, ok := p.operator(compared); ok {
		n = operation(op, n, p.sum())
	}
	return n
}

func (p *parser) sum() api.Node {
	return p.row(p.product, summed)
}

func (p *parser) product() api.Node {
	return p.row(p.unary, multiplied)
}

// row takes parts with operators between; the ones ahead are together first.
func (p *parser) row(part func() api.Node, firm int) api.Node {
	n := part()
	for {
		op, ok := p.operator(firm)
		if !ok {
			return n
		}
		n = operation(op, n, part())
	}
}

// operator takes an operator, if one that is so firm is next.
func (p *parser) operator(firm int) (int64, bool) {
	for _, o := range operators {
		if o.firm == firm && p.takes(o.sign) {
			return o.op, true
		}
	}
	return 0, false
}

func operation(op int64, left, right api.Node) api.Node {
	n := node(api.NOp, left, right)
	n.Num = op
	return n
}

func (p *parser) unary() api.Node {
	switch {
	case p.takes("-"):
		return node(api.NNeg, p.unary())
	case p.takes("!"):
		return node(api.NNot, p.unary())
	}
	return p.behind(p.first())
}

// first takes what a post expression begins with.
func (p *parser) first() api.Node {
	if w, ok := p.two[p.text()]; ok {
		return node(w.made, p.inside(p.text()))
	}
	switch p.text() {
	case "(":
		return p.inside()
	case "&":
		p.pass()
		return api.Node{Kind: api.NAddr, Text: p.name()}
	case "count":
		p.pass()
		return api.Node{Kind: api.NCount}
	case "extra":
		return node(api.NExtra, p.inside("extra"))
	}
	if !p.isName(0) {
		return p.number()
	}
	n := api.Node{Kind: api.NName, Text: p.name()}
	if p.takes("{") {
		n.Kind = api.NMake
		n.Kids = p.parts(p.expr, "}")
	}
	return n
}

// inside takes an expression in parentheses, and the words ahead of them.
func (p *parser) inside(words ...string) api.Node {
	p.ask(words...)
	p.ask("(")
	n := p.expr()
	p.ask(")")
	return n
}

// behind takes the fields and the arguments behind an expression.
func (p *parser) behind(n api.Node) api.Node {
	for {
		switch {
		case p.takes("."):
			n = api.Node{Kind: api.NDot, Text: p.name(), Kids: []api.Node{n}}
		case p.takes("("):
			n = api.Node{Kind: api.NCall, Kids: append([]api.Node{n}, p.parts(p.expr, ")")...)}
		default:
			return n
		}
	}
}
