package link_test

import (
	"fmt"
	"math"
	"slices"
	"testing"

	"scarfjoint/api"
	"scarfjoint/machine"
)

// tooGreat is told of an image that may not be.
var tooGreat = api.Trouble{Code: api.ErrSize, At: 1}

// filled is an object of main and a function, with so many instructions in all, and a variable of so many words, if any.
func filled(instructions, variables int) api.Object {
	l := []part{start()}
	if instructions > 1 {
		l = append(l, fun("f", slices.Repeat([]string{"out r0"}, instructions-1)...))
	}
	if variables > 0 {
		l = append(l, variable("v", make([]int32, variables)...))
	}
	return objectOf(l...)
}

// renamed is an object whose symbols are all static, so that it may stand beside others.
func renamed(o api.Object) api.Object {
	o.Symbols = slices.Clone(o.Symbols)
	for at := range o.Symbols {
		o.Symbols[at].Static = true
	}
	return o
}

// S1: memories, of small images and great ones.
func TestMemories(t *testing.T) {
	for _, c := range [][2]int{{1, 0}, {1, 1}, {12, 0}, {13, 0}, {14, 0}, {15, 0}, {1, 12}, {1, 13}, {1, 14}, {100, 300}, {5998, 0}, {5998, 9984}, {1, 15980}} {
		l := all(filled(c[0], c[1]))
		least := max(2+c[0]+c[1]+16, 32)
		why := fmt.Sprint(c, " in ")
		for _, memory := range []int{math.MinInt, -1 << 32, -1 << 31, -1, 0, 1, 15, 16, 17, 31, 32, least - 17, least - 16, least - 2, least - 1, least, least + 1, api.MaxMemory - 1, api.MaxMemory, api.MaxMemory + 1, 1 << 16, 1 << 31, 1<<32 + least, 1 << 32, math.MaxInt - 15, math.MaxInt} {
			want := tooGreat
			if memory >= least && memory <= api.MaxMemory {
				want = api.Trouble{}
			}
			tells(t, why+fmt.Sprint(memory), l, memory, want)
			if image := linked(l, memory).image; (machine.Check(image) == api.OK) != (want.Code == api.OK) {
				t.Error(why, memory, "no image that may be")
			}
		}
	}
	// More Code and Data than there may be in any memory.
	for _, c := range [][2]int{{5998, 9985}, {1, 15982}, {1, 16000}, {6000, 16000}, {5999, 0}, {6000, 0}} {
		for _, memory := range []int{0, 32, 6018, api.MaxMemory, math.MaxInt, math.MinInt} {
			tells(t, fmt.Sprint(c, " in ", memory), all(filled(c[0], c[1])), memory, tooGreat)
		}
	}
}

// S1: Code and Data of several objects that are together just not too much, and one more.
func TestSizesTogether(t *testing.T) {
	for n := 1; n <= api.MaxUnits; n++ {
		for _, more := range []int{-1, 0, 1} {
			var l []api.Object
			left, words := api.MaxCode-2+more, api.MaxMemory-api.MaxCode-16
			for unit := range n {
				// The last one has all that is left.
				instructions, variables := 1+1000*unit, 100*unit
				if unit == n-1 {
					instructions, variables = left, words
				}
				left, words = left-instructions, words-variables
				o := filled(instructions, variables)
				if unit > 0 {
					o = renamed(o)
				}
				l = append(l, o)
			}
			want := api.Trouble{}
			if more > 0 {
				want = tooGreat
			}
			tells(t, fmt.Sprint(n, " objects and ", more), l, api.MaxMemory, want)
			tells(t, fmt.Sprint(n, " objects and ", more, ", a word too little"), l, api.MaxMemory-1-max(0, -more), tooGreat)
		}
	}
	great := all(filled(6000, 16000), renamed(filled(6000, 16000)), renamed(filled(6000, 16000)), renamed(filled(6000, 16000)))
	tells(t, "all as great as they may be", great, api.MaxMemory, tooGreat)
	great = all(renamed(filled(6000, 16000)), renamed(filled(6000, 16000)), renamed(filled(6000, 16000)), filled(6000, 16000))
	tells(t, "main behind all others", great, api.MaxMemory, tooGreat)
}

// S1, S2: the farthest things of which a reloc may speak in an image that may be: their addresses and Add together are below what each Imm may be, so that ErrRange is told of none.
func TestFarthest(t *testing.T) {
	for _, op := range []string{"movi r7 ", "jump ", "zero r9 ", "call "} {
		o := objectOf(start(), fun("f", op+"@v+6000", op+"@w+6000", op+"@f+6000", op+"@w"), outVariable("w"), variable("v", make([]int32, 9000)...))
		far := objectOf(variable("u", make([]int32, api.MaxMemory-16-9000-7-1)...), variable("w", 1))
		wellDone(t, op, all(o, far), api.MaxMemory)
		image := linked(all(o, far), api.MaxMemory).image
		if low := len(image.Code) + len(image.Data); low != api.MaxMemory-16 {
			t.Fatal(low)
		}
		want := words("call 2", "exit r0", "jumpr r14", op+"6007", op+"21983", op+"6003", op+"15983")
		if !slices.Equal(image.Code, want) {
			t.Errorf("%s: %x, not %x", op, image.Code, want)
		}
	}
}
