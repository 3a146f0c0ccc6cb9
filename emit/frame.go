package emit

import (
	"slices"

	"scarfjoint/abi"
	"scarfjoint/api"
	"scarfjoint/colour"
	"scarfjoint/types"
)

// firstKept is the first of the machine's registers whose word a function gives back; those below it are used as one likes.
const firstKept = 4

// frame is where a function's words lie while it runs: in registers, or on the stack, from the word on that the register 13 has then.
type frame struct {
	size    int        // what the function was given on the stack lies behind so many words
	lies    []api.Loc  // of each register of the body
	kept    []api.Loc  // the machine's registers whose words are to be given back
	waiting []api.Loc  // where those words are till then
	given   api.Places // where the words lay that the function was given
	result  api.Loc    // where the address is at which the result is to be laid, if it has one
	count   api.Loc    // where it is told how many words lie beyond, if that is
	copies  []api.Loc  // of each parameter, if it is copied, where the address of the copy is
}

// frameOf finds the frame of a body, some of whose calls are at the tail.
func frameOf(b api.Body, tails []int) frame {
	var f frame
	f.given, _ = abi.Places(b.Type, nil)
	f.lies, _ = colour.Of(b)
	take := func(words int) api.Loc {
		at := f.size
		f.size += words
		room(f.size <= mostFrame)
		return api.Loc{Stack: true, N: at}
	}
	take(handedOn(b, tails)) // at the bottom, where those that are called look for it
	for at, l := range f.lies {
		if l.Stack {
			f.lies[at] = take(1)
		}
	}
	for register, used := range touched(b.Code, tails, f.lies) {
		if used && register >= firstKept {
			f.kept = append(f.kept, api.Loc{N: register})
			f.waiting = append(f.waiting, take(1))
		}
	}
	if f.given.Result >= 0 {
		f.result = take(1)
	}
	if f.given.Count >= 0 {
		f.count = take(1)
	}
	f.copies = make([]api.Loc, len(f.given.Copied))
	for at, copied := range f.given.Copied {
		if copied {
			f.copies[at] = take(1)
		}
	}
	return f
}

// behind is where a word of the stack area lies that the function was given, or that a call at the tail is given in its place.
func (f *frame) behind(l api.Loc) api.Loc {
	if l.Stack {
		l.N += f.size
	}
	return l
}

// touched says which of the machine's registers orders change: those in which registers lie of which they speak, and the one in which calls come back, by those that do, and by those of a word, which is handed there.
func touched(code []api.Three, tails []int, lies []api.Loc) [16]bool {
	var used [16]bool
	for at, o := range code {
		for _, register := range slices.Concat(o.D, o.S) {
			if l := lies[register]; !l.Stack {
				used[l.N] = true
			}
		}
		if o.Op == api.TCallr || isCall(o) && !slices.Contains(tails, at) {
			used[link.N] = true
		}
	}
	return used
}

// isCall says whether an order is a call.
func isCall(o api.Three) bool {
	return o.Op == api.TCall || o.Op == api.TCallr
}

// handedOn tells how many words the calls of a body are handed on the stack, each for itself. One at the tail is handed them where the function's own were.
func handedOn(b api.Body, tails []int) int {
	most := 0
	for at, o := range b.Code {
		if isCall(o) && !slices.Contains(tails, at) {
			most = max(most, parcelOf(o).size)
		}
	}
	return most
}

// parcel is what a call is handed: places of the stack are those of the frame of who calls, from its bottom on.
type parcel struct {
	api.Places
	words  []api.Loc  // where the words of all arguments go, in order
	laid   []api.Move // the address of each From goes to its To
	beyond int        // how many words lie beyond
	back   []api.Loc  // where the words of the result come back
	size   int        // how many words it has on the stack
}

// parcelOf finds what a call is handed: its stack area, and behind that the copies and the room for a result that are handed by their addresses.
func parcelOf(o api.Three) parcel {
	var p parcel
	p.Places, _ = abi.Places(o.Type, nil)
	p.size = p.Area
	take := func(words int) []api.Loc {
		var l []api.Loc
		for range words {
			l = append(l, api.Loc{Stack: true, N: p.size})
			p.size++
		}
		return l
	}
	last := len(o.Type.Parts) - 1
	p.beyond = len(arguments(o))
	for _, part := range o.Type.Parts[:last] {
		p.beyond -= types.Words(part)
	}
	// Without types beyond the area ends where the words beyond begin.
	extra := take(p.beyond)
	for at, part := range o.Type.Parts[:last] {
		where := p.Params[at]
		if p.Copied[at] {
			where = take(types.Words(part))
			p.laid = append(p.laid, api.Move{From: where[0], To: p.Params[at][0]})
		}
		p.words = append(p.words, where...)
	}
	p.words = append(p.words, extra...)
	for _, register := range p.Results {
		p.back = append(p.back, api.Loc{N: register})
	}
	if p.Result >= 0 {
		p.back = take(types.Words(o.Type.Parts[last]))
		p.laid = append(p.laid, api.Move{From: p.back[0], To: api.Loc{N: p.Result}})
	}
	return p
}

// arguments gives the registers of a call's words, without that of what is called.
func arguments(o api.Three) []int {
	if o.Op == api.TCallr {
		return o.S[1:]
	}
	return o.S
}
