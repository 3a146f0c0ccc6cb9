package object_test

import (
	"encoding/binary"
	"fmt"
	"slices"
	"testing"

	"scarfjoint/api"
	"scarfjoint/object"
)

// bytesOf is what Put makes of an object that may be.
func bytesOf(t *testing.T, o api.Object) []byte {
	t.Helper()
	b, e := object.Put(o)
	if e != api.OK {
		t.Fatal(told(o), e)
	}
	return b
}

// R3: no bytes, and few.
func TestFewBytes(t *testing.T) {
	refuses(t, "nil", nil)
	refuses(t, "none", []byte{})
	for n := range 40 {
		b := make([]byte, n)
		if agreesOn(t, fmt.Sprint("noughts: ", n), b) != (n == 16) {
			t.Error(n)
		}
		for at := range b {
			b[at] = 255
		}
		refuses(t, fmt.Sprint("bytes 255: ", n), b)
	}
}

// R3: each beginning of an object's bytes, and more than them.
func TestFewerAndMoreBytes(t *testing.T) {
	for _, o := range []api.Object{{}, good(), {Data: make([]int32, 3), Symbols: []api.Symbol{data("v", 0, 3)}}} {
		b := bytesOf(t, o)
		for n := range b {
			refuses(t, fmt.Sprint("bytes: ", n), b[:n])
			refuses(t, fmt.Sprint("bytes behind: ", n), b[n+1:])
		}
		for _, more := range [][]byte{{0}, {1}, {0, 0, 0, 0}, b} {
			refuses(t, "more", slices.Concat(b, more))
			refuses(t, "more ahead", slices.Concat(more, b))
		}
	}
}

// R3: each byte turned, and left out, and twice.
func TestBytesTurned(t *testing.T) {
	b := bytesOf(t, good())
	others := 0
	for at := range b {
		for with := range 256 {
			turned := slices.Clone(b)
			turned[at] = byte(with)
			if agreesOn(t, fmt.Sprintf("byte %d is %d", at, with), turned) && byte(with) != b[at] {
				others++
			}
		}
		agreesOn(t, fmt.Sprint("without byte ", at), slices.Delete(slices.Clone(b), at, at+1))
		agreesOn(t, fmt.Sprint("twice byte ", at), slices.Insert(slices.Clone(b), at, b[at]))
		if t.Failed() {
			return
		}
	}
	if others < 1000 {
		t.Error("too few of them are those of other objects:", others)
	}
}

// R3: numbers in any place: counts and lengths that say less or more than there is.
func TestNumbersTurned(t *testing.T) {
	for _, o := range []api.Object{{}, good()} {
		b := bytesOf(t, o)
		for at := range len(b) - 3 {
			is := binary.BigEndian.Uint32(b[at:])
			left := uint32(len(b) - at)
			for _, n := range []uint32{0, 1, 2, is - 1, is + 1, left - 5, left - 4, left - 3, left, left / 4, 255, 256, 399, 400, 401, 1999, 2000, 2001, 5999, 6000, 6001, 15999, 16000, 16001, 1<<30 - 1, 1 << 30, 1<<31 - 1, 1 << 31, 1<<31 + 1, -left, is - 1<<31, is + 1<<30, 1<<32 - 2, 1<<32 - 4, 1<<32 - 1} {
				turned := slices.Clone(b)
				binary.BigEndian.PutUint32(turned[at:], n)
				agreesOn(t, fmt.Sprintf("number at %d is %d", at, n), turned)
			}
			if t.Failed() {
				return
			}
		}
	}
}

// R3: Static is 1 or 0.
func TestStatic(t *testing.T) {
	o := api.Object{Data: []int32{0}, Symbols: []api.Symbol{data("abc", 0, 1)}}
	b := bytesOf(t, o)
	// Behind both counts of words, the word, the count of symbols, the name and the kind.
	place := 16 + 4 + len("abc") + 4
	for _, n := range []uint32{0, 1, 2, 3, 255, 256, 257, 1 << 16, 1 << 24, 1<<24 + 1, 1 << 31, 1<<31 + 1, 1<<32 - 1} {
		turned := slices.Clone(b)
		binary.BigEndian.PutUint32(turned[place:], n)
		if agreesOn(t, fmt.Sprint("static ", n), turned) != (n < 2) {
			t.Error(n)
		}
		if got, _ := object.Get(turned); n < 2 && got.Symbols[0].Static != (n == 1) {
			t.Error(n, got)
		}
	}
}

// R3: counts of as much as there may be, and of one more, where there is as much.
func TestCountsBeyond(t *testing.T) {
	word := make([]byte, 4)
	count := func(n int) []byte { return binary.BigEndian.AppendUint32(nil, uint32(n)) }
	for _, n := range []int{6000, 6001, 16000, 16001, 100000} {
		code := slices.Concat(count(n), slices.Repeat(word, n), make([]byte, 12))
		refuses(t, "Code with no function", code)
		data := slices.Concat(word, count(n), slices.Repeat(word, n), make([]byte, 8))
		refuses(t, "Data with no variable", data)
		refuses(t, "symbols of noughts", slices.Concat(word, word, count(n), make([]byte, 32*n)))
		refuses(t, "relocs of noughts", slices.Concat(word, word, word, count(n), make([]byte, 12*n)))
	}
	for _, length := range []int{1, 16, 17, 100, 2000, 2001} {
		o := api.Object{Symbols: []api.Symbol{{Name: string(slices.Repeat([]byte("a"), length)), Kind: api.SymOutFun, Sign: "x"}}}
		agrees(t, fmt.Sprint("name of bytes: ", length), o, length <= 16)
	}
}
