package model_test

import (
	"cmp"
	"slices"
	"strings"

	"scarfjoint/api"
	"scarfjoint/check"
	"scarfjoint/word"
)

// world is a program: the chapter once more, in another way. Functions are rows of small deeds on a stack of words, places are found ahead of the run, and what is called stands in a list.
type world struct {
	units  []api.Node
	things []*entity
	fields map[string][]field // of each struct, by its type's text
}

// entity is a function or a variable that a unit has.
type entity struct {
	api.Node
	unit   int
	text   string
	words  []int32 // of a variable
	deeds  []deed  // of a function
	params int     // how many words they have
}

type field struct {
	name, text string
	from       int
}

func static(n api.Node) bool { return n.Num == 1 || n.Num == 3 }

func has(n api.Node) bool { return n.Kind == api.NFun || n.Kind == api.NGlobal }

// open finds what all units may see of a name.
func (w *world) open(name string) (api.Node, int, bool) {
	for at, u := range w.units {
		for _, n := range u.Kids {
			if has(n) && n.Text == name && !static(n) {
				return n, at, true
			}
		}
	}
	return api.Node{}, 0, false
}

// text writes the type that a node of a unit is or declares.
func (w *world) text(unit int, n api.Node) string {
	var l []string
	for _, kid := range n.Kids {
		if kid.Kind != api.NBlock {
			l = append(l, w.text(unit, kid))
		}
	}
	many := n.Num == 1
	switch n.Kind {
	case api.NInt:
		return "int"
	case api.NLongT:
		return "long"
	case api.NNamed:
		at := slices.IndexFunc(w.units[unit].Kids, func(d api.Node) bool { return d.Kind == api.NStruct && d.Text == n.Text })
		return w.text(unit, w.units[unit].Kids[at])
	case api.NStruct:
		return w.structText(n, l)
	case api.NFun:
		many = n.Num > 1
	case api.NParam, api.NField, api.NOutside, api.NGlobal:
		return l[0]
	case api.NNumber, api.NLong:
		return ""
	}
	last := len(l) - 1
	params := slices.Clone(l[:last])
	if many {
		params = append(params, "...")
	}
	return "fn(" + strings.Join(params, ",") + ")" + l[last]
}

// structText writes a struct's type, and keeps where its fields are: all of their words stand one behind the other.
func (w *world) structText(n api.Node, parts []string) string {
	text, from := "struct "+n.Text+"{", 0
	var l []field
	for i, kid := range n.Kids {
		l = append(l, field{kid.Text, parts[i], from})
		from += w.size(parts[i])
		text += parts[i] + " " + kid.Text + ";"
	}
	w.fields[text+"}"] = l
	return text + "}"
}

// size is how many words a value of a type has here.
func (w *world) size(text string) int {
	switch {
	case text == "long":
		return 2
	case strings.HasPrefix(text, "struct "):
		l := w.fields[text]
		last := l[len(l)-1]
		return last.from + w.size(last.text)
	}
	return 1
}

// field finds one of a type's.
func (w *world) field(text, name string) field {
	l := w.fields[text]
	return l[slices.IndexFunc(l, func(f field) bool { return f.name == name })]
}

// nodes is how many a node and all below it are.
func nodes(n api.Node) int {
	count := 1
	for _, kid := range n.Kids {
		count += nodes(kid)
	}
	return count
}

// ranked is a trouble of some sort.
type ranked struct {
	sort int
	api.Trouble
}

// wrong tells the trouble that H1 names first, of all that there are.
func wrong(texts []string) api.Trouble {
	if len(texts) == 0 || len(texts) > api.MaxUnits {
		return api.Trouble{Code: api.ErrSize}
	}
	w := &world{fields: map[string][]field{}}
	var l []ranked
	for at, text := range texts {
		n, f := check.Check(text)
		if f.Code != api.OK {
			l = append(l, ranked{1, api.Trouble{Unit: at, Code: f.Code, At: f.At}})
		}
		w.units = append(w.units, n)
	}
	if len(l) == 0 {
		l = append(w.betweenUnits(), w.ofMain()...)
	}
	if len(l) == 0 {
		return api.Trouble{}
	}
	return slices.MinFunc(l, func(a, b ranked) int {
		return cmp.Or(a.sort-b.sort, a.Unit-b.Unit, a.At-b.At)
	}).Trouble
}

func (w *world) betweenUnits() []ranked {
	var l []ranked
	for unit, u := range w.units {
		at := 1
		for _, n := range u.Kids {
			add := func(sort int, code api.Errno) {
				l = append(l, ranked{sort, api.Trouble{Unit: unit, Code: code, At: at}})
			}
			o, from, ok := w.open(n.Text)
			switch n.Kind {
			case api.NFun, api.NGlobal:
				if ok && !static(n) && from < unit {
					add(2, api.ErrTwice)
				}
			case api.NExtern, api.NOutside:
				if !ok {
					add(3, api.ErrName)
				} else if (o.Kind == api.NFun) != (n.Kind == api.NExtern) || w.text(from, o) != w.text(unit, n) {
					add(3, api.ErrKind)
				}
			}
			at += nodes(n)
		}
	}
	return l
}

func (w *world) ofMain() []ranked {
	n, unit, ok := w.open("main")
	if !ok || n.Kind != api.NFun {
		return []ranked{{4, api.Trouble{Code: api.ErrName}}}
	}
	if w.text(unit, n) != "fn()int" {
		return []ranked{{4, api.Trouble{Code: api.ErrKind}}}
	}
	return nil
}

// pair64 and halves are a long and its words.
func pair64(low, high int32) int64 { return int64(high)<<32 | int64(uint32(low)) }

func halves(n int64) []int32 { return []int32{int32(n), int32(n >> 32)} }

// deed is what a run does at once.
type deed func(*state)

// state is a run in its midst.
type state struct {
	api.Shown
	fuel  int
	stack []int32
	calls []*activation
	over  bool
}

type activation struct {
	*entity
	at     int
	locals [200]int32
	beyond []int32
}

func (s *state) top() *activation { return s.calls[len(s.calls)-1] }

// pop takes the last words off the stack.
func (s *state) pop(size int) []int32 {
	at := len(s.stack) - size
	l := slices.Clone(s.stack[at:])
	s.stack = s.stack[:at]
	return l
}

func (s *state) push(l ...int32) { s.stack = append(s.stack, l...) }

func (s *state) stop(how int) {
	s.End, s.over = how, true
}

// reference runs a program that has no trouble.
func reference(texts []string, fuel int) api.Shown {
	w := &world{fields: map[string][]field{}}
	for _, text := range texts {
		n, _ := check.Check(text)
		w.units = append(w.units, n)
	}
	for unit, u := range w.units {
		for _, n := range u.Kids {
			if has(n) {
				w.things = append(w.things, &entity{Node: n, unit: unit, text: w.text(unit, n)})
			}
		}
	}
	for _, e := range w.things {
		w.lay(e)
	}
	s := &state{fuel: fuel}
	s.begin(w.seen(-1, "main"), nil)
	for !s.over {
		c := s.top()
		c.at++
		c.deeds[c.at-1](s)
	}
	return s.Shown
}

// seen finds what a name stands for in a unit.
func (w *world) seen(unit int, name string) *entity {
	var other *entity
	for _, e := range w.things {
		if e.Text == name && e.unit == unit {
			return e
		}
		if e.Text == name && !static(e.Node) {
			other = e
		}
	}
	return other
}

// lay makes a variable's words, or a function's deeds.
func (w *world) lay(e *entity) {
	if e.Kind == api.NGlobal {
		e.words = halves(e.Kids[1].Num)[:w.size(e.text)]
		return
	}
	k := &layer{world: w, entity: e, scopes: []map[string]variable{{}}}
	for _, n := range e.Kids {
		if n.Kind == api.NParam {
			k.local(n.Text, w.text(e.unit, n))
		}
	}
	e.params = k.next
	for _, n := range e.Kids[len(e.Kids)-1].Kids {
		k.statement(n)
	}
}

// begin calls a function with the words of all arguments.
func (s *state) begin(e *entity, words []int32) {
	c := &activation{entity: e, beyond: words[e.params:]}
	copy(c.locals[:], words[:e.params])
	s.calls = append(s.calls, c)
}

// layer lays a function's deeds.
type layer struct {
	*world
	*entity
	scopes []map[string]variable
	next   int
}

// variable is where a local lies.
type variable struct {
	text string
	from int
}

func (k *layer) local(name, text string) int {
	from := k.next
	k.scopes[len(k.scopes)-1][name] = variable{text, from}
	k.next += k.size(text)
	return from
}

func (k *layer) find(name string) (variable, bool) {
	for _, scope := range slices.Backward(k.scopes) {
		if v, ok := scope[name]; ok {
			return v, true
		}
	}
	return variable{}, false
}

func (k *layer) add(d deed) int {
	k.deeds = append(k.deeds, d)
	return len(k.deeds) - 1
}

// jump goes on elsewhere, if a word on the stack is 0 or where none is asked for.
func (k *layer) jump(asks bool, to *int) {
	k.add(func(s *state) {
		if !asks || s.pop(1)[0] == 0 {
			s.top().at = *to
		}
	})
}

func (k *layer) step() {
	k.add(func(s *state) {
		if s.Steps == s.fuel {
			s.stop(api.RunFuel)
			return
		}
		s.Steps++
	})
}

func (k *layer) block(n api.Node) {
	next := k.next
	k.scopes = append(k.scopes, map[string]variable{})
	for _, kid := range n.Kids {
		k.statement(kid)
	}
	k.scopes = k.scopes[:len(k.scopes)-1]
	k.next = next
}

func (k *layer) statement(n api.Node) {
	k.step()
	start := len(k.deeds)
	last := len(n.Kids) - 1
	switch n.Kind {
	case api.NVar:
		size := k.size(k.expr(n.Kids[1]))
		from := k.local(n.Text, k.world.text(k.unit, n.Kids[0]))
		k.add(func(s *state) { copy(s.top().locals[from:], s.pop(size)) })
	case api.NSet:
		size := k.size(k.expr(n.Kids[1]))
		_, place := k.place(n.Kids[0])
		k.add(func(s *state) { copy(place(s), s.pop(size)) })
	case api.NIf:
		var other, end int
		k.expr(n.Kids[0])
		k.jump(true, &other)
		k.block(n.Kids[1])
		k.jump(false, &end)
		other = len(k.deeds)
		if last == 2 {
			k.block(n.Kids[2])
		}
		end = len(k.deeds)
	case api.NWhile:
		var end int
		k.expr(n.Kids[0])
		k.jump(true, &end)
		k.block(n.Kids[1])
		k.jump(false, &start)
		end = len(k.deeds)
	case api.NPut:
		size := k.size(k.expr(n.Kids[0]))
		k.add(func(s *state) { s.Out = append(s.Out, s.pop(size)...) })
	case api.NDo:
		size := k.size(k.expr(n.Kids[0]))
		k.add(func(s *state) { s.pop(size) })
	case api.NReturn:
		k.expr(n.Kids[0])
		k.add(func(s *state) {
			s.calls = s.calls[:len(s.calls)-1]
			if len(s.calls) == 0 {
				s.Value = s.pop(1)[0]
				s.stop(api.RunExit)
			}
		})
	}
}

// place finds the type of a variable or a field of it, and where its words stand.
func (k *layer) place(n api.Node) (string, func(s *state) []int32) {
	if n.Kind == api.NDot {
		text, whole := k.place(n.Kids[0])
		f := k.field(text, n.Text)
		return f.text, func(s *state) []int32 { return whole(s)[f.from:] }
	}
	if v, ok := k.find(n.Text); ok {
		return v.text, func(s *state) []int32 { return s.top().locals[v.from:] }
	}
	e := k.seen(k.unit, n.Text)
	return e.text, func(*state) []int32 { return e.words }
}

// expr lays an expression, and tells its type.
func (k *layer) expr(n api.Node) string {
	k.step()
	if n.Kind == api.NCall {
		return k.called(n)
	}
	var l []string
	for _, kid := range n.Kids {
		l = append(l, k.expr(kid))
	}
	switch n.Kind {
	case api.NNumber:
		k.add(func(s *state) { s.push(int32(n.Num)) })
	case api.NLong:
		k.add(func(s *state) { s.push(halves(n.Num)...) })
		return "long"
	case api.NName:
		text, place := k.place(n)
		size := k.size(text)
		k.add(func(s *state) { s.push(place(s)[:size]...) })
		return text
	case api.NAddr:
		e := k.seen(k.unit, n.Text)
		at := slices.Index(k.things, e)
		k.add(func(s *state) { s.push(int32(at)) })
		return e.text
	case api.NMake:
		return k.world.text(k.unit, api.Node{Kind: api.NNamed, Text: n.Text})
	case api.NDot:
		f, size := k.field(l[0], n.Text), k.size(l[0])
		k.add(func(s *state) { s.push(s.pop(size)[f.from : f.from+k.size(f.text)]...) })
		return f.text
	case api.NCount:
		k.add(func(s *state) { s.push(int32(len(s.top().beyond))) })
	case api.NExtra:
		k.add(func(s *state) {
			at := int(s.pop(1)[0])
			if at >= 0 && at < len(s.top().beyond) {
				s.push(s.top().beyond[at])
			} else {
				s.push(0)
			}
		})
	default:
		return k.number(n, l)
	}
	return "int"
}

// number lays what makes numbers of numbers, on the stack.
func (k *layer) number(n api.Node, l []string) string {
	long := l[0] == "long"
	pop := func(s *state) int64 {
		if long {
			w := s.pop(2)
			return pair64(w[0], w[1])
		}
		return int64(s.pop(1)[0])
	}
	made := "int"
	if n.Kind == api.NToLong || long && (n.Kind == api.NNeg || n.Kind == api.NOp && n.Num != api.OpSame && n.Num != api.OpLess) {
		made = "long"
	}
	k.add(func(s *state) {
		b, a := pop(s), int64(0)
		switch n.Kind {
		case api.NNeg:
			b = -b
		case api.NNot:
			b, _ = word.Wide(api.OpSame, b, 0)
		case api.NOp:
			a = pop(s)
			if n.Num == api.OpDiv || n.Num == api.OpRem {
				w, ok := word.Op(int(n.Num), int32(a), int32(b))
				if !ok {
					s.stop(api.RunDivided)
				}
				b = int64(w)
			} else {
				// All others are of two words what they are of two longs, in the lower bits.
				b, _ = word.Wide(int(n.Num), a, b)
			}
		}
		s.push(halves(b)[:k.size(made)]...)
	})
	return made
}

func (k *layer) called(n api.Node) string {
	var text string
	var e *entity
	if _, local := k.find(n.Kids[0].Text); n.Kids[0].Kind == api.NName && !local {
		e = k.seen(k.unit, n.Kids[0].Text)
		text = e.text
	} else {
		text = k.expr(n.Kids[0])
	}
	words := 0
	for _, kid := range n.Kids[1:] {
		words += k.size(k.expr(kid))
	}
	k.add(func(s *state) {
		l, f := s.pop(words), e
		if f == nil {
			f = k.things[s.pop(1)[0]]
		}
		s.begin(f, l)
	})
	return result(text)
}

// result is the type's text behind the parameters of a function's.
func result(text string) string {
	deep := 0
	for at, c := range text {
		switch c {
		case '(':
			deep++
		case ')':
			deep--
			if deep == 0 {
				return text[at+1:]
			}
		}
	}
	return ""
}
