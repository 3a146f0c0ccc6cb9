package emit_test

import (
	"fmt"
	"slices"
	"testing"

	"scarfjoint/api"
	"scarfjoint/code"
	"scarfjoint/machine"
	"scarfjoint/word"
)

// pending is a call that has not come back.
type pending struct {
	back  int       // where it comes back to
	kept  [16]int32 // the registers when it was made
	frame int       // of the function that runs in it now
}

// watched is a machine whose steps are held against Q3: chapter 3 written once more, with what calls have not come back.
type watched struct {
	api.Stop
	r        [16]int32
	pc, low  int
	memory   []int32
	code     []api.Instr
	frames   map[int]int // of functions, by their first instructions
	calls    []pending
	room     int // the frames of all calls that have not come back
	lowest   int // how low the register 13 was
	deepest  int // how many calls had not come back at once
	lastOnes int // how many calls at the tail were seen
	wrong    string
}

func newWatched(t *testing.T, image api.Image, ranges []api.Range) *watched {
	t.Helper()
	w := &watched{low: len(image.Code) + len(image.Data), memory: make([]int32, image.Memory), lowest: image.Memory, frames: map[int]int{}}
	for at, bits := range image.Code {
		i, ok := code.Decode(bits)
		if !ok {
			t.Fatalf("%d: no instruction: %x", at, bits)
		}
		w.code = append(w.code, i)
		w.memory[at] = int32(bits)
	}
	copy(w.memory[len(image.Code):], image.Data)
	w.r[13] = int32(image.Memory)
	for _, r := range ranges {
		w.frames[r.From] = r.Frame
	}
	return w
}

// amiss keeps the first thing that is not as Q3 says.
func (w *watched) amiss(what string, about ...any) {
	if w.wrong == "" {
		w.wrong = fmt.Sprintf("step %d at %d: %s %v", w.Steps, w.pc, what, about)
	}
}

// play runs up to an end, or for so many steps.
func (w *watched) play(fuel int) {
	for w.Steps < fuel && w.End == api.EndFuel {
		w.Steps++
		i := w.code[w.pc]
		next := w.do(i)
		if w.End != api.EndFuel {
			return
		}
		w.follow(i, next)
		w.pc = next
		if int(w.r[13]) < len(w.memory)-w.room {
			w.amiss("13 is lower than the frames say:", w.r[13], w.room)
		}
	}
}

// follow keeps count of the calls.
func (w *watched) follow(i api.Instr, next int) {
	frame, begins := w.frames[next]
	last := len(w.calls) - 1
	switch i.Op {
	case api.ICall, api.ICallr:
		if !begins {
			w.amiss("what is called is no function:", next)
		}
		w.calls = append(w.calls, pending{w.pc + 1, w.r, frame})
		w.room += frame
		w.deepest = max(w.deepest, len(w.calls))
	case api.IJumpr:
		if begins {
			w.replace(frame)
			return
		}
		c := w.calls[last]
		if next != c.back {
			w.amiss("does not come back:", next, c.back)
		}
		if !slices.Equal(w.r[4:12], c.kept[4:12]) || w.r[13] != c.kept[13] {
			w.amiss("not kept:", w.r, c.kept)
		}
		w.room -= c.frame
		w.calls = w.calls[:last]
	case api.IJump:
		if begins {
			w.replace(frame)
		}
	}
}

// replace says that another function goes on in the place of the one that runs: that has left nothing on the stack, and has given back what it was to keep.
func (w *watched) replace(frame int) {
	w.lastOnes++
	c := &w.calls[len(w.calls)-1]
	w.room += frame - c.frame
	c.frame = frame
	if !slices.Equal(w.r[4:12], c.kept[4:12]) || w.r[13] != c.kept[13] {
		w.amiss("left by a call at the tail:", w.r, c.kept)
	}
}

// do does an instruction, and tells which one is next.
func (w *watched) do(i api.Instr) int {
	next := w.pc + 1
	at := int(w.r[i.B]) + i.Imm
	switch i.Op {
	case api.IJump:
		next = i.Imm
	case api.IZero:
		if w.r[i.A] == 0 {
			next = i.Imm
		}
	case api.ICall, api.ICallr:
		to := i.Imm
		if i.Op == api.ICallr {
			to = int(w.r[i.A])
		}
		w.r[14] = int32(next)
		next = to
	case api.IJumpr:
		next = int(w.r[i.A])
	case api.IOut:
		w.Out = append(w.Out, w.r[i.A])
	case api.IExit:
		w.End, w.Value = api.EndExit, w.r[i.A]
	case api.IStore:
		if at < len(w.code) || at >= len(w.memory) {
			w.End = api.EndWrong
			return next
		}
		if at >= w.low && at < int(w.r[13]) {
			w.amiss("stored below 13:", at, w.r[13])
		}
		w.memory[at] = w.r[i.A]
	case api.ILoad:
		if at < 0 || at >= len(w.memory) {
			w.End = api.EndWrong
			return next
		}
		w.give(i.A, w.memory[at])
	default:
		w.give(i.A, w.made(i))
	}
	return next
}

// made is the word that an instruction makes of registers and its number.
func (w *watched) made(i api.Instr) int32 {
	switch i.Op {
	case api.IMov:
		return w.r[i.B]
	case api.IMovi:
		return int32(i.Imm)
	case api.IMovh:
		return int32(uint32(i.Imm)<<16 | uint32(w.r[i.A])&0xffff)
	case api.IAddi:
		return w.r[i.B] + int32(i.Imm)
	}
	n, ok := word.Op(i.Op-api.IOp, w.r[i.B], w.r[i.C])
	if !ok {
		w.End = api.EndDivided
		return w.r[i.A]
	}
	return n
}

// give gives a register its word.
func (w *watched) give(register int, n int32) {
	w.r[register] = n
	if register != 13 || w.End != api.EndFuel {
		return
	}
	if int(n) < w.low {
		w.End = api.EndFull
	} else if int(n) > len(w.memory) {
		w.End = api.EndWrong
	} else {
		w.lowest = min(w.lowest, int(n))
	}
}

// watch runs an image step by step, holds Q3, and holds the machine itself against what was seen.
func watch(t *testing.T, image api.Image, ranges []api.Range, fuel int) *watched {
	t.Helper()
	w := newWatched(t, image, ranges)
	w.play(fuel)
	if w.wrong != "" {
		t.Errorf("memory %d, low %d: %s", image.Memory, w.low, w.wrong)
	}
	got, e := machine.Run(image, fuel)
	if e != api.OK || got.End != w.End || got.Value != w.Value || got.Steps != w.Steps || !slices.Equal(got.Out, w.Out) {
		t.Errorf("the machine and the watched one are not at one: %s %d, %s", told(got), e, told(w.Stop))
	}
	return w
}
