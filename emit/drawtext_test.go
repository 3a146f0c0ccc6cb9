package emit_test

import (
	"slices"
	"strconv"
	"strings"

	"scarfjoint/api"
	"scarfjoint/types"
)

// item is what has a name and a type: a local, or a function or a variable of a unit.
type item struct {
	name string
	api.Type
	unit   int
	static bool
}

// author draws a program's texts; it may be stuck where nothing of a type is there.
type author struct {
	*drawer
	structs   []api.Type
	functions []item // each calls mostly those ahead of it
	variables []item
	at        int      // the function that is written
	blocks    [][]item // its locals
	turns     int      // names of locals that count turns
	stuck     bool
}

// letters are names, few, so that what is declared here hides what is declared there.
var letters = strings.Fields("a b c d e f g h i j")

// spell writes a type as a unit does.
func spell(t api.Type) string {
	switch t.Kind {
	case api.TInt:
		return "int"
	case api.TLong:
		return "long"
	case api.TStruct:
		return t.Name
	}
	last := len(t.Parts) - 1
	var l []string
	for _, part := range t.Parts[:last] {
		l = append(l, spell(part))
	}
	if t.Many {
		l = append(l, "...")
	}
	return "fn(" + strings.Join(l, ",") + ")" + spell(t.Parts[last])
}

// typ draws a type; of functions' types there are just those of the first two functions, which all may see.
func (w *author) typ() api.Type {
	switch w.below(8) {
	case 0, 1:
		return long
	case 2, 3:
		if len(w.structs) > 0 {
			return oneOf(w.drawer, w.structs)
		}
	case 4:
		if len(w.functions) >= 2 {
			return w.functions[w.below(2)].Type
		}
	}
	return whole
}

func (w *author) number() api.Type {
	return oneOf(w.drawer, []api.Type{whole, long})
}

func (w *author) structure() {
	t := api.Type{Kind: api.TStruct, Name: "s" + strconv.Itoa(len(w.structs))}
	for at := range 1 + w.below(1+w.below(api.MaxFields)) {
		t.Parts, t.Names = append(t.Parts, w.typ()), append(t.Names, letters[at])
	}
	if types.May(t) {
		w.structs = append(w.structs, t)
	}
}

// taken says whether a unit, or, of what is not static, another one has the name.
func (w *author) taken(v item) bool {
	return slices.ContainsFunc(slices.Concat(w.functions, w.variables), func(o item) bool {
		return o.name == v.name && (o.unit == v.unit || !o.static && !v.static)
	})
}

// place gives a thing a unit, and a name that is free there.
func (w *author) place(v item, units int) (item, bool) {
	v.unit, v.static, v.name = w.below(units), w.below(3) == 0, oneOf(w.drawer, letters)
	return v, !w.taken(v)
}

func (w *author) signature() api.Type {
	t := api.Type{Kind: api.TFn, Many: w.below(3) == 0}
	for range w.below(4) + 1 {
		t.Parts = append(t.Parts, w.typ())
	}
	return t
}

// texts draws the texts of a program.
func (d *drawer) texts() ([]string, bool) {
	w := &author{drawer: d}
	units := 1 + d.below(api.MaxUnits)
	for at := range 2 {
		w.functions = append(w.functions, item{name: "f" + strconv.Itoa(at), Type: w.signature(), unit: d.below(units)})
	}
	for range d.below(4) {
		w.structure()
	}
	for range 2 + d.below(4) {
		if v, ok := w.place(item{Type: w.signature()}, units); ok && types.May(v.Type) {
			w.functions = append(w.functions, v)
		}
	}
	for range d.below(6) {
		if v, ok := w.place(item{Type: w.number()}, units); ok {
			w.variables = append(w.variables, v)
		}
	}
	w.functions = append(w.functions, item{name: "main", Type: api.Type{Kind: api.TFn, Parts: []api.Type{whole}}, unit: d.below(units)})
	texts := make([]string, units)
	for unit := range texts {
		texts[unit] = w.head(unit)
	}
	for at, f := range w.functions {
		w.at = at
		texts[f.unit] += w.function()
	}
	return texts, !w.stuck
}

// head draws what stands ahead of a unit's functions.
func (w *author) head(unit int) string {
	text := ""
	for _, t := range w.structs {
		text += "struct " + t.Name + "{"
		for i, part := range t.Parts {
			text += spell(part) + " " + t.Names[i] + ";"
		}
		text += "}"
	}
	for _, f := range w.functions {
		if f.unit != unit && w.sees(f, unit) {
			text += "extern " + w.line(f, nil) + ";"
		}
	}
	for _, v := range w.variables {
		if v.unit != unit && w.sees(v, unit) {
			text += "extern " + spell(v.Type) + " " + v.name + ";"
		}
		if v.unit == unit {
			text += strings.Repeat("static ", truth(v.static)) + spell(v.Type) + " " + v.name + "=" + w.literal(v.Type, true) + ";"
		}
	}
	return text
}

func truth(yes bool) int {
	if yes {
		return 1
	}
	return 0
}

// sees says whether a unit may speak of a thing of another one.
func (w *author) sees(v item, unit int) bool {
	return !v.static && !w.taken(item{name: v.name, unit: unit, static: true})
}

// line writes a function's head; its parameters' names are given, or made up.
func (w *author) line(f item, params []item) string {
	var l []string
	for i, part := range f.Parts[:len(f.Parts)-1] {
		name := "p" + strconv.Itoa(i)
		if params != nil {
			name = params[i].name
		}
		l = append(l, spell(part)+" "+name)
	}
	if f.Many {
		l = append(l, "...")
	}
	return spell(f.Parts[len(f.Parts)-1]) + " " + f.name + "(" + strings.Join(l, ",") + ")"
}

// literal draws a number: a small one, or one at an edge.
func (w *author) literal(t api.Type, signed bool) string {
	n := []string{"0", "1", "2", "3", strconv.Itoa(w.below(100)), "65536", "2147483647"}
	text := oneOf(w.drawer, n)
	if t.Kind == api.TLong {
		text = oneOf(w.drawer, append(n, "2147483648", "4294967295", "4294967296", "9223372036854775807")) + "L"
	}
	return strings.Repeat("-", truth(signed && w.below(3) == 0)) + text
}

// function draws one with its block.
func (w *author) function() string {
	f := w.functions[w.at]
	params := []item{}
	for i, part := range f.Parts[:len(f.Parts)-1] {
		params = append(params, item{name: letters[(i*3+w.below(3))%len(letters)], Type: part})
	}
	w.blocks = [][]item{params}
	text := strings.Repeat("static ", truth(f.static)) + w.line(f, params) + "{"
	return text + w.statements(2) + "return " + w.expr(f.Parts[len(f.Parts)-1], 3) + ";}"
}

func (w *author) statements(more int) string {
	text := ""
	for range 1 + w.below(3) {
		text += w.statement(more)
	}
	return text
}

func (w *author) block(more int) string {
	w.blocks = append(w.blocks, nil)
	text := "{" + w.statements(more-1) + "}"
	w.blocks = w.blocks[:len(w.blocks)-1]
	return text
}

func (w *author) statement(more int) string {
	kind := w.below(11)
	if more == 0 && kind < 3 {
		kind = 3 + w.below(8)
	}
	switch kind {
	case 0:
		text := "if(" + w.expr(whole, 2) + ")" + w.block(more)
		if w.below(2) == 0 {
			text += "else" + w.block(more)
		}
		return text
	case 1:
		return w.loop(more)
	case 2:
		if w.below(4) == 0 {
			return "while(" + w.expr(whole, 2) + ")" + w.block(more)
		}
		f := w.functions[w.at]
		return "if(" + w.expr(whole, 2) + "){return " + w.expr(f.Parts[len(f.Parts)-1], 2) + ";}"
	case 3, 4:
		return w.variable()
	case 5, 6:
		return "put(" + w.expr(w.number(), 3) + ");"
	case 7:
		if f, ok := w.find(func(t api.Type) bool { return t.Kind == api.TFn }, true); ok {
			return f.name + w.arguments(f.Type, 2) + ";"
		}
	case 8:
		if v, ok := w.find(func(t api.Type) bool { return t.Kind == api.TStruct }, false); ok {
			return v.name + "=" + w.shuffled(v, v.Type) + ";"
		}
	}
	return w.set()
}

// paths has all that lies in a struct, by its names.
func paths(v item) []item {
	l := []item{v}
	for i, part := range v.Parts {
		if v.Kind == api.TStruct {
			l = append(l, paths(item{name: v.name + "." + v.Names[i], Type: part})...)
		}
	}
	return l
}

// shuffled draws a struct that is made of what lies in another one.
func (w *author) shuffled(v item, t api.Type) string {
	like := slices.DeleteFunc(paths(v), func(o item) bool { return !types.Same(o.Type, t) || o.name == v.name && w.below(9) > 0 })
	switch {
	case len(like) > 0 && (t.Kind != api.TStruct || w.below(2) == 0):
		return oneOf(w.drawer, like).name
	case t.Kind != api.TStruct:
		return w.expr(t, 1)
	}
	var l []string
	for _, part := range t.Parts {
		l = append(l, w.shuffled(v, part))
	}
	return t.Name + "{" + strings.Join(l, ",") + "}"
}

// set draws a place and what it becomes.
func (w *author) set() string {
	v, ok := w.find(func(api.Type) bool { return true }, false)
	if !ok {
		return ""
	}
	for v.Kind == api.TStruct && w.below(3) > 0 {
		i := w.below(len(v.Parts))
		v = item{name: v.name + "." + v.Names[i], Type: v.Parts[i]}
	}
	return v.name + "=" + w.expr(v.Type, 3) + ";"
}

// loop draws one that ends behind some turns, with a local that nothing else speaks of.
func (w *author) loop(more int) string {
	w.turns++
	name := "k" + strconv.Itoa(w.turns)
	if w.words()+1 > api.MaxLocals-2 {
		return ""
	}
	// Its word counts among the locals; no number is of its type, so that none speaks of it.
	inner := len(w.blocks) - 1
	w.blocks[inner] = append(w.blocks[inner], item{name: name})
	block := w.block(more)
	return "int " + name + "=" + strconv.Itoa(w.below(3)) + ";while(" + name + "<3)" + strings.TrimSuffix(block, "}") + name + "=" + name + "+1;}"
}

// words is how many the locals have that are there.
func (w *author) words() int {
	sum := 0
	for _, block := range w.blocks {
		for _, v := range block {
			sum += max(1, types.Words(v.Type))
		}
	}
	return sum
}

func (w *author) variable() string {
	v := item{name: oneOf(w.drawer, letters), Type: w.typ()}
	inner := len(w.blocks) - 1
	twice := slices.ContainsFunc(w.blocks[inner], func(o item) bool { return o.name == v.name })
	if twice || w.words()+types.Words(v.Type) > api.MaxLocals-2 {
		return ""
	}
	text := spell(v.Type) + " " + v.name + "=" + w.expr(v.Type, 3) + ";"
	w.blocks[inner] = append(w.blocks[inner], v)
	return text
}

// near has the functions that may be spoken of: those of this unit ahead and the one itself, and what other units let see.
func (w *author) near() []item {
	unit := w.functions[w.at].unit
	var l []item
	for at, f := range w.functions {
		if f.unit == unit && at <= w.at || f.unit != unit && w.sees(f, unit) {
			// Those that may call this one make runs without an end.
			if at < w.at || w.below(15) == 0 {
				l = append(l, f)
			}
		}
	}
	return l
}

// find draws one of the variables that are there and not hidden, and, if asked for, of the functions, that is of a type that is fine.
func (w *author) find(fine func(api.Type) bool, functions bool) (item, bool) {
	unit := w.functions[w.at].unit
	var l []item
	hidden := map[string]bool{}
	add := func(things []item) {
		for _, v := range things {
			if !hidden[v.name] && v.Kind != 0 && fine(v.Type) {
				l = append(l, v)
			}
		}
		for _, v := range things {
			hidden[v.name] = true
		}
	}
	for _, block := range slices.Backward(w.blocks) {
		add(block)
	}
	add(slices.DeleteFunc(slices.Clone(w.variables), func(v item) bool { return v.unit != unit && !w.sees(v, unit) }))
	if functions {
		add(w.near())
	}
	if len(l) == 0 {
		return item{}, false
	}
	return oneOf(w.drawer, l), true
}

// arguments draws those of a call, with their parentheses.
func (w *author) arguments(f api.Type, more int) string {
	var l []string
	for _, part := range f.Parts[:len(f.Parts)-1] {
		l = append(l, w.expr(part, more-1))
	}
	if f.Many {
		for range w.below(1 + w.below(1+api.MaxParams)) {
			l = append(l, w.expr(w.number(), more-1))
		}
	}
	return "(" + strings.Join(l, ",") + ")"
}

// expr draws an expression of a type.
func (w *author) expr(t api.Type, more int) string {
	if v, ok := w.find(func(o api.Type) bool { return types.Same(o, t) }, false); ok && w.below(2) == 0 {
		return v.name
	}
	if more > 0 && w.below(3) == 0 {
		if text := w.part(t, more); text != "" {
			return text
		}
	}
	switch t.Kind {
	case api.TStruct:
		var l []string
		for _, part := range t.Parts {
			l = append(l, w.expr(part, more-1))
		}
		return t.Name + "{" + strings.Join(l, ",") + "}"
	case api.TFn:
		for _, f := range w.near() {
			if types.Same(f.Type, t) {
				return "&" + f.name
			}
		}
		w.stuck = true
	}
	if more <= 0 || w.below(3) == 0 {
		return w.literal(t, false)
	}
	return w.counted(t, more)
}

// part draws a call with a result of a type, or a field of it.
func (w *author) part(t api.Type, more int) string {
	if w.below(2) == 0 {
		f, ok := w.find(func(o api.Type) bool { return o.Kind == api.TFn && types.Same(o.Parts[len(o.Parts)-1], t) }, true)
		if !ok {
			return ""
		}
		return f.name + w.arguments(f.Type, more)
	}
	for _, s := range w.structs {
		for i, part := range s.Parts {
			if types.Same(part, t) && w.below(2) == 0 {
				return w.expr(s, more-1) + "." + s.Names[i]
			}
		}
	}
	return ""
}

// counted draws an expression of a number's type.
func (w *author) counted(t api.Type, more int) string {
	other := w.number()
	apart := func(t api.Type) string { return "(" + w.expr(t, more-1) + ")" }
	isInt := t.Kind == api.TInt
	switch w.below(8) {
	case 0:
		return "-" + apart(t)
	case 1:
		return spell(t) + apart(other)
	case 2:
		if isInt {
			return apart(other) + oneOf(w.drawer, []string{"==", "<"}) + apart(other)
		}
	case 3, 4:
		if isInt && w.functions[w.at].Many {
			return oneOf(w.drawer, []string{"count", "extra" + apart(whole), "extra(" + w.literal(whole, true) + ")"})
		}
	case 5, 6:
		if isInt {
			by := oneOf(w.drawer, []string{"3", "-1", "0", apart(whole)})
			return oneOf(w.drawer, []string{"!" + apart(whole), apart(whole) + "/" + by, apart(whole) + "%" + by})
		}
	}
	return apart(t) + oneOf(w.drawer, strings.Fields("+ - | ^ * &")) + apart(t)
}
