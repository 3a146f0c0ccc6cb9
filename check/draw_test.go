package check_test

import (
	"slices"
	"strconv"
	"strings"

	"scarfjoint/api"
	"scarfjoint/types"
)

// drawer draws numbers: the same ones each time.
type drawer uint64

func (d *drawer) below(n int) int {
	*d ^= *d << 13
	*d ^= *d >> 7
	*d ^= *d << 17
	return int(uint64(*d) >> 11 % uint64(n))
}

// one draws one of a list.
func one[T any](d *drawer, l []T) T {
	return l[d.below(len(l))]
}

// thing is what has a name and a type.
type thing struct {
	name string
	api.Type
}

// writer draws a unit's text that may be, unless it slips.
type writer struct {
	*drawer
	rarely    int // one time in so many it slips; 0: it never does
	structs   []api.Type
	functions []thing
	globals   []thing
	blocks    [][]thing
	result    api.Type
	many      bool
	made      int // names that were made
}

func (w *writer) slips() bool {
	return w.rarely > 0 && w.below(w.rarely) == 0
}

// dares says whether it goes on with what is too large.
func (w *writer) dares() bool {
	return w.rarely > 0 && w.below(2) == 0
}

// name makes a new one, which is short.
func (w *writer) name() string {
	w.made++
	n := w.made
	if w.slips() {
		n = w.below(n + 1)
	}
	return string(rune('a'+n%26)) + strconv.Itoa(n/26)
}

// some draws how many parts there are.
func (w *writer) some(least int) int {
	if w.slips() {
		return 6 + w.below(3)
	}
	return least + w.below(3)
}

// typ draws a type; one of functions is that of a function that there is, so that it has a value.
func (w *writer) typ() api.Type {
	switch w.below(7) {
	case 0, 1:
		return wide
	case 2, 6:
		if len(w.structs) > 0 {
			return one(w.drawer, w.structs)
		}
	case 3:
		if len(w.functions) > 0 {
			return one(w.drawer, w.functions).Type
		}
	case 4:
		if w.slips() {
			return w.anyFunction()
		}
	}
	return whole
}

// anyFunction draws a type of functions that may not be, and of which there may be none.
func (w *writer) anyFunction() api.Type {
	t := api.Type{Kind: api.TFn, Many: w.below(2) == 0}
	for range 1 + w.some(0) {
		t.Parts = append(t.Parts, w.typ())
	}
	return t
}

// spell writes a type as a unit does.
func spell(t api.Type) string {
	switch t.Kind {
	case api.TInt:
		return "int"
	case api.TLong:
		return "long"
	case api.TStruct:
		return t.Name
	}
	last := len(t.Parts) - 1
	var l []string
	for _, part := range t.Parts[:last] {
		l = append(l, spell(part))
	}
	if t.Many {
		l = append(l, "...")
	}
	return "fn(" + strings.Join(l, ",") + ")" + spell(t.Parts[last])
}

// structure draws a struct, if one may be that has the fields that were drawn.
func (w *writer) structure() string {
	t := api.Type{Kind: api.TStruct, Name: w.name()}
	text := "struct " + t.Name + "{"
	for range w.some(1) {
		part, name := w.typ(), w.name()
		t.Parts, t.Names = append(t.Parts, part), append(t.Names, name)
		text += spell(part) + " " + name + ";"
	}
	if !types.May(t) && !w.dares() {
		return ""
	}
	w.structs = append(w.structs, t)
	return text + "}"
}

// large gives a struct of as many words as there may be, which is drawn often.
func (w *writer) large() string {
	t := api.Type{Kind: api.TStruct, Name: w.name()}
	text := "struct " + t.Name + "{"
	for range api.MaxFields {
		t.Parts, t.Names = append(t.Parts, wide), append(t.Names, w.name())
		text += "long " + t.Names[len(t.Names)-1] + ";"
	}
	w.structs = []api.Type{t, t, t, t}
	return text + "}"
}

func (w *writer) number(t api.Type) string {
	if t.Kind == api.TLong {
		return strconv.Itoa(w.below(9)) + "L"
	}
	return strconv.Itoa(w.below(9))
}

func (w *writer) global() string {
	t := one(w.drawer, []api.Type{whole, wide})
	if w.slips() {
		t = w.typ()
	}
	v := thing{w.name(), t}
	w.globals = append(w.globals, v)
	text := spell(t) + " " + v.name
	switch w.below(4) {
	case 0:
		return "extern " + text + ";"
	case 1:
		return "static " + text + "=-" + w.number(t) + ";"
	}
	return text + "=" + w.number(t) + ";"
}

// function draws one that stands elsewhere, or one with a block.
func (w *writer) function() string {
	f := thing{w.name(), api.Type{Kind: api.TFn, Many: w.below(3) == 0}}
	var params []thing
	var texts []string
	for range w.some(0) {
		v := thing{w.name(), w.typ()}
		params = append(params, v)
		texts = append(texts, spell(v.Type)+" "+v.name)
		f.Parts = append(f.Parts, v.Type)
	}
	f.Parts = append(f.Parts, w.typ())
	if f.Many {
		texts = append(texts, "...")
	}
	if !types.May(f.Type) && !w.dares() {
		return ""
	}
	result := f.Parts[len(f.Parts)-1]
	text := spell(result) + " " + f.name + "(" + strings.Join(texts, ",") + ")"
	w.functions = append(w.functions, f)
	w.result, w.many, w.blocks = result, f.Many, [][]thing{params}
	if w.below(3) == 0 {
		return "extern " + text + ";"
	}
	block := "{" + w.statements(2) + "return " + w.expr(result, 2) + ";}"
	if w.slips() {
		block = w.block(2)
	}
	return strings.Repeat("static ", w.below(2)) + text + block
}

func (w *writer) block(more int) string {
	w.blocks = append(w.blocks, nil)
	text := "{" + w.statements(more) + "}"
	w.blocks = w.blocks[:len(w.blocks)-1]
	return text
}

func (w *writer) statements(more int) string {
	text := ""
	for range w.some(1) {
		text += w.statement(more)
	}
	return text
}

func (w *writer) statement(more int) string {
	kind := w.below(8)
	if more == 0 && kind < 2 {
		kind += 2
	}
	switch kind {
	case 0:
		text := "if(" + w.expr(whole, more) + ")" + w.block(more-1)
		if w.below(2) == 0 {
			text += "else" + w.block(more-1)
		}
		return text
	case 1:
		return "while(" + w.expr(whole, more) + ")" + w.block(more-1)
	case 2, 3:
		return w.variable(more)
	case 4:
		return "put(" + w.expr(one(w.drawer, []api.Type{whole, wide}), more) + ");"
	case 5:
		return "return " + w.expr(w.result, more) + ";"
	case 6:
		if f, ok := w.find(func(t api.Type) bool { return t.Kind == api.TFn }, true); ok {
			return f.name + w.arguments(f.Type, more) + ";"
		}
	}
	place, ok := w.find(func(api.Type) bool { return true }, false)
	for ok && place.Kind == api.TStruct && w.below(2) == 0 {
		i := w.below(len(place.Parts))
		place = thing{place.name + "." + place.Names[i], place.Parts[i]}
	}
	if !ok {
		return ""
	}
	return place.name + "=" + w.expr(place.Type, more) + ";"
}

// variable draws a local, if there is room for it; it may hide what is around its block.
func (w *writer) variable(more int) string {
	v := thing{w.name(), w.typ()}
	inner := len(w.blocks) - 1
	if hidden, ok := w.find(func(api.Type) bool { return true }, true); ok && w.below(2) == 0 {
		if !slices.ContainsFunc(w.blocks[inner], func(o thing) bool { return o.name == hidden.name }) {
			v.name = hidden.name
		}
	}
	words := types.Words(v.Type)
	for _, block := range w.blocks {
		for _, o := range block {
			words += types.Words(o.Type)
		}
	}
	if words > api.MaxLocals && !w.dares() {
		return ""
	}
	text := spell(v.Type) + " " + v.name + "=" + w.expr(v.Type, more) + ";"
	w.blocks[inner] = append(w.blocks[inner], v)
	return text
}

// seen has the variables that are there and not hidden, and, if asked for, the functions.
func (w *writer) seen(functions bool) []thing {
	var l []thing
	hidden := map[string]bool{}
	add := func(things []thing, are bool) {
		for _, v := range things {
			if are && !hidden[v.name] {
				l = append(l, v)
			}
			hidden[v.name] = true
		}
	}
	for _, block := range slices.Backward(w.blocks) {
		add(block, true)
	}
	add(w.globals, true)
	add(w.functions, functions)
	return l
}

// find draws one of what is there and of a type that is fine.
func (w *writer) find(fine func(api.Type) bool, functions bool) (thing, bool) {
	l := slices.DeleteFunc(w.seen(functions), func(v thing) bool { return !fine(v.Type) })
	if len(l) == 0 {
		return thing{}, false
	}
	return one(w.drawer, l), true
}

// arguments draws those of a call, with their parentheses.
func (w *writer) arguments(f api.Type, more int) string {
	var l []string
	for _, part := range f.Parts[:len(f.Parts)-1] {
		l = append(l, w.expr(part, more-1))
	}
	if f.Many {
		for range w.below(3) {
			l = append(l, w.expr(one(w.drawer, []api.Type{whole, wide}), more-1))
		}
	}
	return "(" + strings.Join(l, ",") + ")"
}

// expr draws an expression of a type.
func (w *writer) expr(t api.Type, more int) string {
	if w.slips() {
		t = w.typ()
	}
	if v, ok := w.find(func(o api.Type) bool { return types.Same(o, t) }, false); ok && w.below(3) == 0 {
		return v.name
	}
	if more > 0 && w.below(2) == 0 {
		if text := w.part(t, more); text != "" {
			return text
		}
	}
	switch t.Kind {
	case api.TStruct:
		var l []string
		for _, part := range t.Parts {
			l = append(l, w.expr(part, more-1))
		}
		return t.Name + "{" + strings.Join(l, ",") + "}"
	case api.TFn:
		for _, f := range w.functions {
			if types.Same(f.Type, t) {
				return "&" + f.name
			}
		}
	}
	if more <= 0 {
		return w.number(t)
	}
	return w.counted(t, more)
}

// part draws a call with a result of a type, or a field of it.
func (w *writer) part(t api.Type, more int) string {
	if w.below(2) == 0 {
		f, ok := w.find(func(o api.Type) bool { return o.Kind == api.TFn && types.Same(o.Parts[len(o.Parts)-1], t) }, true)
		if !ok {
			return ""
		}
		return f.name + w.arguments(f.Type, more)
	}
	for _, s := range w.structs {
		for i, part := range s.Parts {
			if types.Same(part, t) && w.below(2) == 0 {
				return w.expr(s, more-1) + "." + s.Names[i]
			}
		}
	}
	return ""
}

// counted draws an expression of a number's type.
func (w *writer) counted(t api.Type, more int) string {
	other := one(w.drawer, []api.Type{whole, wide})
	apart := func(t api.Type) string { return "(" + w.expr(t, more-1) + ")" }
	long := t.Kind == api.TLong
	switch w.below(6) {
	case 0:
		return "-" + apart(t)
	case 1:
		return spell(t) + apart(other)
	case 2:
		if !long {
			return apart(other) + one(w.drawer, []string{"==", "<"}) + apart(other)
		}
	case 3:
		if !long && (w.many || w.slips()) {
			return one(w.drawer, []string{"count", "extra" + apart(whole)})
		}
	case 4:
		if !long {
			return one(w.drawer, []string{"!" + apart(whole), apart(whole) + "/" + apart(whole), apart(whole) + "%" + apart(whole)})
		}
	}
	return apart(t) + one(w.drawer, strings.Fields("+ - | ^ * &")) + apart(t)
}

// unit draws a unit's text.
func (d *drawer) unit(rarely int) string {
	w := writer{drawer: d, rarely: rarely}
	text := ""
	if d.below(3) == 0 {
		text = w.large()
	}
	for range 2 + d.below(5) {
		switch d.below(5) {
		case 0:
			text += w.structure()
		case 1:
			text += w.global()
		default:
			text += w.function()
		}
	}
	return text
}
