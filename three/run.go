package three

import (
	"scarfjoint/api"
	"scarfjoint/word"
)

// mostCalls is how many have not returned at most; package api has no word for it.
const mostCalls = 3000

// ended is thrown where the run ends ahead of main's return: its number is one of api's.
type ended int

// run is one of a program: what it showed so far, and how far it came.
type run struct {
	api.Shown
	*program
	fuel      int
	calls     int     // that have not returned
	registers []int32 // of all of these, one call's behind the other's
}

// play calls main.
func (r *run) play() {
	defer func() {
		if how, ok := recover().(ended); ok {
			r.End = int(how)
		}
	}()
	r.learn()
	result := r.called(r.open["main"].place, nil)
	r.End, r.Value = api.RunExit, result[0]
}

// step counts one, if there is fuel for it.
func (r *run) step() {
	if r.Steps == r.fuel {
		panic(ended(api.RunFuel))
	}
	r.Steps++
}

// call is one that has not returned yet.
type call struct {
	*run
	*function
	first  int // of the run's registers its own one of the number 0
	beyond []int32
}

// called calls a function with some words, and gives those that it returns.
func (r *run) called(number int, given []int32) []int32 {
	if r.calls == mostCalls {
		panic(ended(api.RunFuel))
	}
	f := &r.functions[number]
	c := call{run: r, function: f, first: len(r.registers), beyond: given[f.params:]}
	r.calls++
	r.registers = append(r.registers, make([]int32, f.Regs)...)
	copy(r.registers[c.first:], given[:f.params])
	result := c.orders()
	r.registers = r.registers[:c.first]
	r.calls--
	return result
}

// orders does the orders of a call up to its end, and gives the words that it returns.
func (c *call) orders() []int32 {
	at := 0
	for {
		o := &c.Code[at]
		c.step()
		read := func(n int) int32 { return c.registers[c.first+o.S[n]] }
		next := at + 1
		switch o.Op {
		case api.TReturn:
			return c.all(o.S)
		case api.TJump:
			next = o.N
		case api.TZero:
			if read(0) == 0 {
				next = o.N
			}
		case api.TPut:
			c.Out = append(c.Out, read(0))
		case api.TStore:
			c.variables[c.about[at].place+o.N] = read(0)
		case api.TCall:
			c.write(o.D, c.called(c.about[at].place, c.all(o.S))...)
		case api.TCallr:
			c.write(o.D, c.called(c.callee(read(0), c.about[at].sign), c.all(o.S[1:]))...)
		default:
			c.write(o.D, c.made(o, c.about[at].place, read))
		}
		at = next
	}
}

// all gives the words of registers, one behind the other.
func (c *call) all(registers []int) []int32 {
	var l []int32
	for _, register := range registers {
		l = append(l, c.registers[c.first+register])
	}
	return l
}

// write gives registers their words.
func (c *call) write(registers []int, words ...int32) {
	for at, register := range registers {
		c.registers[c.first+register] = words[at]
	}
}

// callee gives the number of the function that a word is, which is to be of just that type.
func (c *call) callee(w int32, sign string) int {
	if w < 0 || int(w) >= len(c.functions) || c.functions[w].sign != sign {
		panic(ended(api.RunWrong))
	}
	return int(w)
}

// made gives the word that an order has for its register: place is where that is of which the order speaks, read gives what is in a register of its S.
func (c *call) made(o *api.Three, place int, read func(int) int32) int32 {
	switch o.Op {
	case api.TCopy:
		return read(0)
	case api.TWord:
		return operation(o.N, read(0), read(1))
	case api.TLoad:
		return c.variables[place+o.N]
	case api.TAddr:
		return int32(place)
	case api.TCount:
		return int32(len(c.beyond))
	case api.TExtra:
		return c.extra(read(0))
	}
	return int32(o.N)
}

// operation is one of two words, of which nothing is told where it divides by 0.
func operation(op int, a, b int32) int32 {
	w, ok := word.Op(op, a, b)
	if !ok {
		panic(ended(api.RunDivided))
	}
	return w
}

// extra is one of the words beyond, if there is one of that number.
func (c *call) extra(at int32) int32 {
	if at < 0 || int(at) >= len(c.beyond) {
		return 0
	}
	return c.beyond[at]
}
