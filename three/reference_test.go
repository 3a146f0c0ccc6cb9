package three_test

import (
	"slices"

	"scarfjoint/api"
	"scarfjoint/types"
	"scarfjoint/word"
)

// The chapter written once more, as plainly as can be: names are looked for where they stand, each time anew, and calls are a list.

// shape is how a row's fields are written: a letter each for D0, S0, S1, N, Name, Type; D and S for as many as types say.
func shape(op int) string {
	l := []string{"", "dN", "ds", "dstN", "dMN", "sMN", "dM", "DSMT", "DSsT", "N", "sN", "s", "S", "d", "ds"}
	if op < 0 || op >= len(l) {
		return ""
	}
	return l[op]
}

// wordsOf counts the words of types.
func wordsOf(l []api.Type) int {
	n := 0
	for _, x := range l {
		n += types.Words(x)
	}
	return n
}

// signature is a function's parameters, and its result.
func signature(t api.Type) ([]api.Type, []api.Type) {
	return t.Parts[:len(t.Parts)-1], t.Parts[len(t.Parts)-1:]
}

func isFunction(t api.Type) bool {
	return types.May(t) && t.Kind == api.TFn
}

// mayBody is K1's May.
func mayBody(b api.Body) bool {
	if !types.Name(b.Name) || !isFunction(b.Type) || len(b.Code) == 0 || len(b.Code) > api.MaxCode {
		return false
	}
	params, _ := signature(b.Type)
	if b.Regs < wordsOf(params) || b.Regs > api.MaxRegs {
		return false
	}
	for _, o := range b.Code {
		if !mayOrder(b, o) {
			return false
		}
	}
	return slices.Contains([]int{api.TJump, api.TReturn}, b.Code[len(b.Code)-1].Op)
}

// mayOrder asks of an order, letter by letter, what its row names, and that all else is zero.
func mayOrder(b api.Body, o api.Three) bool {
	form := shape(o.Op)
	has := func(letter rune) bool { return slices.Contains([]rune(form), letter) }
	least, most := 0, 0
	if has('N') {
		least, most = numbersOf(b, o.Op)
	}
	if form == "" || o.N < least || o.N > most || !has('M') && o.Name != "" {
		return false
	}
	if has('T') != isFunction(o.Type) || !has('T') && (o.Type.Kind != 0 || o.Type.Name != "" || len(o.Type.Names)+len(o.Type.Parts) > 0 || o.Type.Many) {
		return false
	}
	d, s, more := 0, 0, 0
	for _, letter := range form {
		switch letter {
		case 'd':
			d++
		case 's', 't':
			s++
		}
	}
	switch o.Op {
	case api.TCall, api.TCallr:
		params, result := signature(o.Type)
		d, s = d+wordsOf(result), s+wordsOf(params)
		if o.Type.Many {
			more = 12
		}
	case api.TReturn:
		_, result := signature(b.Type)
		s = wordsOf(result)
	case api.TCount, api.TExtra:
		if !b.Type.Many {
			return false
		}
	}
	return mayRegisters(o, d, s, more, b.Regs)
}

func mayRegisters(o api.Three, d, s, more, regs int) bool {
	seen := map[int]int{}
	for _, r := range o.D {
		seen[r]++
		if seen[r] > 1 {
			return false
		}
	}
	for _, r := range slices.Concat(o.D, o.S) {
		if r < 0 || r >= regs {
			return false
		}
	}
	return len(o.D) == d && len(o.S) >= s && len(o.S) <= s+more
}

func numbersOf(b api.Body, op int) (int, int) {
	switch op {
	case api.TConst:
		return -1 << 31, 1<<31 - 1
	case api.TWord:
		return 1, 12
	case api.TLoad, api.TStore:
		return 0, 1
	}
	return 0, len(b.Code) - 1
}

// giver is who gives a name in a unit: the kind is b of a body, g of a global, o of an outside.
type giver struct {
	kind byte
	at   int
}

func givers(m api.Made, name string) []giver {
	var l []giver
	for at, b := range m.Bodies {
		if b.Name == name {
			l = append(l, giver{'b', at})
		}
	}
	for at, g := range m.Globals {
		if g.Name == name {
			l = append(l, giver{'g', at})
		}
	}
	for at, o := range m.Outsides {
		if o.Name == name {
			l = append(l, giver{'o', at})
		}
	}
	return l
}

// meant is the type of what a unit's name stands for, and whether that is a function.
func meant(m api.Made, name string) (api.Type, bool, bool) {
	l := givers(m, name)
	if len(l) == 0 {
		return api.Type{}, false, false
	}
	switch at := l[0].at; l[0].kind {
	case 'b':
		return m.Bodies[at].Type, true, true
	case 'g':
		return m.Globals[at].Type, false, true
	default:
		return m.Outsides[at].Type, m.Outsides[at].Fun, true
	}
}

// openIn finds who gives a name to all units, ahead of one of them.
func openIn(l []api.Made, ahead int, name string) (int, giver, bool) {
	for unit, m := range l[:ahead] {
		for at, b := range m.Bodies {
			if b.Name == name && !b.Static {
				return unit, giver{'b', at}, true
			}
		}
		for at, g := range m.Globals {
			if g.Name == name && !g.Static {
				return unit, giver{'g', at}, true
			}
		}
	}
	return 0, giver{}, false
}

// badForm is K2's ErrForm of a unit.
func badForm(m api.Made) bool {
	bad := false
	look := func(name string, t api.Type, fun bool) {
		isInt := types.Same(t, whole) || types.Same(t, long)
		bad = bad || !types.Name(name) || len(givers(m, name)) != 1 || fun != isFunction(t) || !fun && !isInt
	}
	for _, b := range m.Bodies {
		bad = bad || !mayBody(b)
		look(b.Name, b.Type, true)
	}
	for _, g := range m.Globals {
		look(g.Name, g.Type, false)
		bad = bad || g.Type.Kind == api.TInt && (g.Value < -1<<31 || g.Value > 1<<31-1)
	}
	for _, o := range m.Outsides {
		look(o.Name, o.Type, o.Fun)
	}
	return bad
}

// badOrder is K2's ErrName of an order.
func badOrder(m api.Made, o api.Three) bool {
	t, fun, ok := meant(m, o.Name)
	switch o.Op {
	case api.TCall:
		return !ok || !fun || !types.Same(t, o.Type)
	case api.TAddr:
		return !ok || !fun
	case api.TLoad, api.TStore:
		return !ok || fun || o.N >= types.Words(t)
	}
	return false
}

// strays tells at which body of a unit an order is wrong.
func strays(m api.Made) (int, bool) {
	for at, b := range m.Bodies {
		if slices.ContainsFunc(b.Code, func(o api.Three) bool { return badOrder(m, o) }) {
			return at, true
		}
	}
	return 0, false
}

// again tells where a unit gives a name that one ahead of it gives.
func again(l []api.Made, unit int) (int, bool) {
	var names []string
	for _, b := range l[unit].Bodies {
		names = append(names, map[bool]string{false: b.Name}[b.Static])
	}
	for _, g := range l[unit].Globals {
		names = append(names, map[bool]string{false: g.Name}[g.Static])
	}
	for at, name := range names {
		if _, _, ok := openIn(l, unit, name); ok && name != "" {
			return at, true
		}
	}
	return 0, false
}

// loose tells which outside of a unit is not found, or is another thing.
func loose(l []api.Made, unit int) (int, api.Errno) {
	for at, o := range l[unit].Outsides {
		where, who, ok := openIn(l, len(l), o.Name)
		if !ok {
			return at, api.ErrName
		}
		if t, fun, _ := meant(l[where], o.Name); fun != (who.kind == 'b') || fun != o.Fun || !types.Same(t, o.Type) {
			return at, api.ErrKind
		}
	}
	return 0, api.OK
}

// wrong is K2's Check.
func wrong(l []api.Made) api.Trouble {
	if len(l) == 0 || len(l) > 4 {
		return api.Trouble{Code: api.ErrSize}
	}
	for unit, m := range l {
		if badForm(m) {
			return api.Trouble{Unit: unit, Code: api.ErrForm}
		}
	}
	for unit, m := range l {
		if at, bad := strays(m); bad {
			return api.Trouble{Unit: unit, Code: api.ErrName, At: at}
		}
	}
	for unit := range l {
		if at, bad := again(l, unit); bad {
			return api.Trouble{Unit: unit, Code: api.ErrTwice, At: at}
		}
	}
	for unit := range l {
		if at, code := loose(l, unit); code != api.OK {
			return api.Trouble{Unit: unit, Code: code, At: at}
		}
	}
	unit, who, ok := openIn(l, len(l), "main")
	if !ok || who.kind != 'b' {
		return api.Trouble{Code: api.ErrName}
	}
	if !types.Same(l[unit].Bodies[who.at].Type, function(whole)) {
		return api.Trouble{Code: api.ErrKind}
	}
	return api.Trouble{}
}

// spotOf is where what a name stands for is: of which unit, and which body or global.
type spotOf struct{ unit, at int }

// find tells what a name of a unit stands for.
func find(l []api.Made, unit int, name string) spotOf {
	who := givers(l[unit], name)[0]
	if who.kind == 'o' {
		unit, who, _ = openIn(l, len(l), name)
	}
	return spotOf{unit, who.at}
}

// frame is a call that has not returned.
type frame struct {
	spot   spotOf
	at     int
	r      map[int]int32
	beyond []int32
	want   []int // the registers of who called it that get what it returns
}

// newFrame is a call with some words.
func newFrame(l []api.Made, spot spotOf, given []int32, want []int) frame {
	f := frame{spot: spot, r: map[int]int32{}, want: want}
	params, _ := signature(l[spot.unit].Bodies[spot.at].Type)
	n := wordsOf(params)
	for at, w := range given {
		if at < n {
			f.r[at] = w
		} else {
			f.beyond = append(f.beyond, w)
		}
	}
	return f
}

// reference is K3's Run of units that have no trouble.
func reference(l []api.Made, fuel int) api.Shown {
	var spots []spotOf
	values := map[spotOf]int64{}
	for unit, m := range l {
		for at := range m.Bodies {
			spots = append(spots, spotOf{unit, at})
		}
		for at, g := range m.Globals {
			values[spotOf{unit, at}] = g.Value
		}
	}
	unit, who, _ := openIn(l, len(l), "main")
	frames := []frame{newFrame(l, spotOf{unit, who.at}, nil, nil)}
	var shown api.Shown
	for {
		if shown.Steps == fuel {
			shown.End = api.RunFuel
			return shown
		}
		shown.Steps++
		f := &frames[len(frames)-1]
		unit := f.spot.unit
		o := l[unit].Bodies[f.spot.at].Code[f.at]
		f.at++
		var s []int32
		for _, r := range o.S {
			s = append(s, f.r[r])
		}
		switch o.Op {
		case api.TConst:
			f.r[o.D[0]] = int32(o.N)
		case api.TCopy:
			f.r[o.D[0]] = s[0]
		case api.TWord:
			w, ok := word.Op(o.N, s[0], s[1])
			if !ok {
				shown.End = api.RunDivided
				return shown
			}
			f.r[o.D[0]] = w
		case api.TLoad:
			f.r[o.D[0]] = int32(values[find(l, unit, o.Name)] >> (32 * o.N))
		case api.TStore:
			v := values[find(l, unit, o.Name)]
			half := uint64(1<<32-1) << (32 * o.N)
			values[find(l, unit, o.Name)] = int64(uint64(v)&^half | uint64(uint32(s[0]))<<(32*o.N))
		case api.TAddr:
			f.r[o.D[0]] = int32(slices.Index(spots, find(l, unit, o.Name)))
		case api.TJump:
			f.at = o.N
		case api.TZero:
			if s[0] == 0 {
				f.at = o.N
			}
		case api.TPut:
			shown.Out = append(shown.Out, s[0])
		case api.TCount:
			f.r[o.D[0]] = int32(len(f.beyond))
		case api.TExtra:
			f.r[o.D[0]] = 0
			if s[0] >= 0 && int(s[0]) < len(f.beyond) {
				f.r[o.D[0]] = f.beyond[s[0]]
			}
		case api.TCall, api.TCallr:
			var to spotOf
			if o.Op == api.TCall {
				to = find(l, unit, o.Name)
			} else {
				if s[0] < 0 || int(s[0]) >= len(spots) || !types.Same(l[spots[s[0]].unit].Bodies[spots[s[0]].at].Type, o.Type) {
					shown.End = api.RunWrong
					return shown
				}
				to, s = spots[s[0]], s[1:]
			}
			if len(frames) == 3000 {
				shown.End = api.RunFuel
				return shown
			}
			frames = append(frames, newFrame(l, to, s, o.D))
		case api.TReturn:
			frames = frames[:len(frames)-1]
			if len(frames) == 0 {
				shown.End, shown.Value = api.RunExit, s[0]
				return shown
			}
			for at, d := range f.want {
				frames[len(frames)-1].r[d] = s[at]
			}
		}
	}
}
