package tail_test

import (
	"fmt"

	"scarfjoint/api"
	"scarfjoint/types"
)

// What O1 asks of a call, each by itself.
const (
	noReturn   = "the order behind it is no TReturn"
	notSame    = "the TReturn's S are not the call's D, in order"
	anyNumber  = "its Type is of any number"
	isCopied   = "a parameter is copied"
	manyWords  = "its result has more than two words"
	greatArea  = "its Area is greater than the body's own"
	noCallHere = "it is no call"
)

// amiss says which conditions of O1 an order of a body that may be misses, all of them.
func amiss(b api.Body, at int) []string {
	o := b.Code[at]
	if o.Op != api.TCall && o.Op != api.TCallr {
		return []string{noCallHere}
	}
	var l []string
	asks := func(holds bool, why string) {
		if !holds {
			l = append(l, why)
		}
	}
	behind := b.Code[at+1]
	asks(behind.Op == api.TReturn, noReturn)
	asks(behind.Op != api.TReturn || fmt.Sprint(behind.S) == fmt.Sprint(o.D), notSame)
	asks(!o.Type.Many, anyNumber)
	asks(!copies(o.Type), isCopied)
	_, result := words(o.Type)
	asks(result <= 2, manyWords)
	asks(area(o.Type) <= area(b.Type), greatArea)
	return l
}

// reference gives the numbers of all orders that miss none of O1's conditions.
func reference(b api.Body) []int {
	var l []int
	for at := range b.Code {
		if len(amiss(b, at)) == 0 {
			l = append(l, at)
		}
	}
	return l
}

// copies says whether a parameter of a function's type is copied, by I2.
func copies(t api.Type) bool {
	for _, part := range t.Parts[:len(t.Parts)-1] {
		if types.Words(part) > 4 {
			return true
		}
	}
	return false
}

// area reckons a function's Area without types beyond, by I2, taken word by word.
func area(t api.Type) int {
	free, places := 4, 0
	lay := func(n int) {
		for range n {
			if free > 0 {
				free--
			} else {
				places++
			}
		}
	}
	if _, result := words(t); result > 2 {
		lay(1)
	}
	if t.Many {
		lay(1)
	}
	for _, part := range t.Parts[:len(t.Parts)-1] {
		n := types.Words(part)
		if n > 4 {
			lay(1)
			continue
		}
		if types.Even(part) && free%2 == 1 {
			free--
		}
		if types.Even(part) && free == 0 && places%2 == 1 {
			places++
		}
		lay(n)
	}
	return (places + 1) / 2 * 2
}
