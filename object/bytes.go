package object

import (
	"scarfjoint/api"
	"scarfjoint/types"
)

// writer writes parts of an object one behind the other.
type writer struct {
	bytes []byte
}

// word writes 4 bytes, the highest first.
func (w *writer) word(n uint32) {
	w.bytes = append(w.bytes, byte(n>>24), byte(n>>16), byte(n>>8), byte(n))
}

// number writes one of an object that may be: none of these is below 0.
func (w *writer) number(n int) {
	w.word(uint32(n))
}

func (w *writer) text(s string) {
	w.number(len(s))
	w.bytes = append(w.bytes, s...)
}

func (w *writer) symbol(s api.Symbol) {
	static := 0
	if s.Static {
		static = 1
	}
	w.text(s.Name)
	w.number(s.Kind)
	w.number(static)
	w.number(s.At)
	w.number(s.Size)
	w.text(s.Sign)
	w.number(s.Frame)
}

func (w *writer) reloc(r api.Reloc) {
	w.number(r.At)
	w.number(r.Symbol)
	w.number(r.Add)
}

// insist gives up, unless bytes are as they should be.
func insist(is bool) {
	if !is {
		panic(api.ErrForm)
	}
}

// reader reads what a writer wrote.
type reader struct {
	left []byte
}

// take gives the next bytes, so many.
func (r *reader) take(n int) []byte {
	insist(n <= len(r.left))
	b := r.left[:n]
	r.left = r.left[n:]
	return b
}

func (r *reader) word() uint32 {
	b := r.take(4)
	return uint32(b[0])<<24 | uint32(b[1])<<16 | uint32(b[2])<<8 | uint32(b[3])
}

// upTo reads a number that is at most another one: so no count is believed that no object has.
func (r *reader) upTo(most int) int {
	n := r.word()
	insist(n <= uint32(most))
	return int(n)
}

// number reads any one: in an object that may be none is greater than MaxNumber.
func (r *reader) number() int {
	return r.upTo(api.MaxNumber)
}

// list reads how many parts there are, at most so many, and these.
func list[T any](r *reader, most int, part func() T) []T {
	var l []T
	for range r.upTo(most) {
		next := part()
		l = append(l, next)
	}
	return l
}

func (r *reader) symbol() api.Symbol {
	text := func(longest int) string {
		length := r.upTo(longest)
		return string(r.take(length))
	}
	var s api.Symbol
	s.Name = text(types.LongestName)
	s.Kind = r.number()
	s.Static = r.upTo(1) == 1
	s.At = r.number()
	s.Size = r.number()
	s.Sign = text(longestSign)
	s.Frame = r.number()
	return s
}

func (r *reader) reloc() api.Reloc {
	var l api.Reloc
	l.At = r.number()
	l.Symbol = r.number()
	l.Add = r.number()
	return l
}
