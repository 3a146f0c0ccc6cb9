package machine_test

import (
	"fmt"
	"math"
	"slices"
	"strings"
	"testing"

	"scarfjoint/api"
	"scarfjoint/code"
	"scarfjoint/machine"
)

const (
	leastWord = math.MinInt32
	mostWord  = math.MaxInt32
)

// memory is how many words the images of these tests have, where a test says no other.
const memory = 100

// assembled gives the words of instructions' texts; a text that begins with # is a word's bits themselves.
func assembled(t *testing.T, texts string) []uint32 {
	t.Helper()
	var l []uint32
	for _, text := range strings.Split(texts, "; ") {
		var w uint32
		if _, err := fmt.Sscanf(text, "#%x", &w); err == nil {
			l = append(l, w)
			continue
		}
		i, e := code.Read(text)
		if e != api.OK {
			t.Fatalf("no instruction: %q", text)
		}
		w, _ = code.Encode(i)
		l = append(l, w)
	}
	return l
}

// regs are those that a test wants to see; 13 is memory, and all others are 0.
type regs map[int]int32

func (r regs) whole(pc int) api.Regs {
	out := api.Regs{PC: pc}
	out.R[13] = memory
	for n, w := range r {
		out.R[n] = w
	}
	return out
}

// sameStop holds two stops against each other; an empty Out may be nil or not.
func sameStop(a, b api.Stop) bool {
	return a.End == b.End && a.Value == b.Value && a.Steps == b.Steps && slices.Equal(a.Out, b.Out)
}

// checkRun holds what Run and Shown tell against what is wanted.
func checkRun(t *testing.T, name string, m api.Image, fuel int, stop api.Stop, shown api.Regs) {
	t.Helper()
	if s, e := machine.Run(m, fuel); !sameStop(s, stop) || e != api.OK {
		t.Errorf("%s: Run: %+v %d, not %+v", name, s, e, stop)
	}
	if r, e := machine.Shown(m, fuel); r != shown || e != api.OK {
		t.Errorf("%s: Shown: %+v %d, not %+v", name, r, e, shown)
	}
}

// C1: images at each edge, and just beyond it.
func TestCheckAtTheEdges(t *testing.T) {
	for _, c := range []struct {
		name               string
		code, data, memory int
		want               api.Errno
	}{
		{"the least", 1, 0, 32, api.OK},
		{"no Code", 0, 0, 32, api.ErrSize},
		{"no Code, but Data", 0, 5, 100, api.ErrSize},
		{"the most Code", api.MaxCode, 0, api.MaxMemory, api.OK},
		{"one word of Code too many", api.MaxCode + 1, 0, api.MaxMemory, api.ErrSize},
		{"Memory of 31", 1, 0, 31, api.ErrSize},
		{"Memory of 0", 1, 0, 0, api.ErrSize},
		{"Memory below 0", 1, 0, -32, api.ErrSize},
		{"the least Memory that there is", 1, 0, math.MinInt, api.ErrSize},
		{"MaxMemory", 1, 0, api.MaxMemory, api.OK},
		{"one more than MaxMemory", 1, 0, api.MaxMemory + 1, api.ErrSize},
		{"the most Memory that there is", 1, 0, math.MaxInt, api.ErrSize},
		{"Memory whose lower bits are a right one's", 1, 0, 1<<32 + 100, api.ErrSize},
		{"Code of just 16 fewer", 16, 0, 32, api.OK},
		{"Code of 15 fewer", 17, 0, 32, api.ErrSize},
		{"Code and Data of just 16 fewer", 10, 6, 32, api.OK},
		{"Code and Data of 15 fewer", 10, 7, 32, api.ErrSize},
		{"Code and much Data of just 16 fewer", 1, 83, 100, api.OK},
		{"Code and much Data of 15 fewer", 1, 84, 100, api.ErrSize},
		{"all at their most", api.MaxCode, api.MaxMemory - api.MaxCode - 16, api.MaxMemory, api.OK},
		{"all at their most, and one word more", api.MaxCode, api.MaxMemory - api.MaxCode - 15, api.MaxMemory, api.ErrSize},
		{"more Data than MaxMemory", 1, api.MaxMemory + 1, api.MaxMemory, api.ErrSize},
	} {
		m := api.Image{Code: make([]uint32, c.code), Data: make([]int32, c.data), Memory: c.memory}
		if e := machine.Check(m); e != c.want {
			t.Errorf("%s: Check: %d, not %d", c.name, e, c.want)
		}
		if s, e := machine.Run(m, 0); !sameStop(s, api.Stop{}) || e != c.want {
			t.Errorf("%s: Run: %+v %d, not error %d", c.name, s, e, c.want)
		}
		if r, e := machine.Shown(m, 0); e != c.want || c.want != api.OK && r != (api.Regs{}) {
			t.Errorf("%s: Shown: %+v %d, not error %d", c.name, r, e, c.want)
		}
	}
}

// C1: which bits Code has is not asked by Check.
func TestCheckAsksNoBits(t *testing.T) {
	m := api.Image{Code: []uint32{0xffffffff}, Data: []int32{leastWord}, Memory: 32}
	if e := machine.Check(m); e != api.OK {
		t.Error(e)
	}
}

// C2: fuel at each edge, and just beyond it; Check's error is told first.
func TestFuelAtTheEdges(t *testing.T) {
	right := api.Image{Code: assembled(t, "jump 0"), Memory: memory}
	wrong := api.Image{Memory: memory}
	for _, c := range []struct {
		name string
		m    api.Image
		fuel int
		want api.Errno
	}{
		{"-1", right, -1, api.ErrRange},
		{"0", right, 0, api.OK},
		{"1", right, 1, api.OK},
		{"MaxFuel", right, api.MaxFuel, api.OK},
		{"one more", right, api.MaxFuel + 1, api.ErrRange},
		{"the least", right, math.MinInt, api.ErrRange},
		{"the most", right, math.MaxInt, api.ErrRange},
		{"lower bits that are right", right, 1<<32 + 1, api.ErrRange},
		{"-1, of an image that may not be", wrong, -1, api.ErrSize},
		{"too much, of an image that may not be", wrong, api.MaxFuel + 1, api.ErrSize},
	} {
		var stop api.Stop
		var shown api.Regs
		if c.want == api.OK {
			stop.Steps, shown = c.fuel, regs{}.whole(0)
		}
		if s, e := machine.Run(c.m, c.fuel); !sameStop(s, stop) || e != c.want {
			t.Errorf("%s: Run: %+v %d, not %+v %d", c.name, s, e, stop, c.want)
		}
		if r, e := machine.Shown(c.m, c.fuel); r != shown || e != c.want {
			t.Errorf("%s: Shown: %+v %d, not %+v %d", c.name, r, e, shown, c.want)
		}
	}
}

// C2: Code, Data and noughts lie one behind the other in the memory, seen by load.
func TestHowTheMemoryBegins(t *testing.T) {
	l := assembled(t, "load r1 r0 0; out r1; exit r0; #ffffffff; #80000001")
	data := []int32{leastWord, -1, mostWord}
	for at := range 40 {
		l[0] = assembled(t, fmt.Sprintf("load r1 r0 %d", at))[0]
		want := int32(0)
		if at < len(l) {
			want = int32(l[at])
		} else if at < len(l)+len(data) {
			want = data[at-len(l)]
		}
		m := api.Image{Code: l, Data: data, Memory: 40}
		stop := api.Stop{End: api.EndExit, Out: []int32{want}, Steps: 3}
		checkRun(t, fmt.Sprint("word ", at), m, 9, stop, regs{1: want, 13: 40}.whole(2))
	}
}

// C2: the registers, and where the machine is, ahead of the first step.
func TestHowTheRegistersBegin(t *testing.T) {
	for _, words := range []int{32, 33, 1000, api.MaxMemory} {
		m := api.Image{Code: assembled(t, "exit r13"), Memory: words}
		checkRun(t, "fuel 0", m, 0, api.Stop{}, regs{13: int32(words)}.whole(0))
		stop := api.Stop{End: api.EndExit, Value: int32(words), Steps: 1}
		checkRun(t, "exit r13", m, 1, stop, regs{13: int32(words)}.whole(0))
	}
}

// C3: each instruction that gives a register a word, or goes elsewhere; the fuel is as many steps as PC is looked at behind.
func TestEachInstruction(t *testing.T) {
	for _, c := range []struct {
		texts string
		steps int
		pc    int
		want  regs
	}{
		{"movi r1 -5; mov r2 r1", 2, 2, regs{1: -5, 2: -5}},
		{"mov r0 r13", 1, 1, regs{0: memory}},
		{"movi r15 32767", 1, 1, regs{15: 32767}},
		{"movi r0 -32768", 1, 1, regs{0: -32768}},
		{"movh r1 1", 1, 1, regs{1: 65536}},
		{"movi r1 -1; movh r1 0", 2, 2, regs{1: 65535}},
		{"movi r1 5; movh r1 65535", 2, 2, regs{1: -65531}},
		{"movi r1 -32768; movh r1 32767", 2, 2, regs{1: 0x7fff8000}},
		{"movi r1 7; movh r1 32768; movh r1 2", 3, 3, regs{1: 2<<16 + 7}},
		{"movi r1 6; movi r2 -2; add r3 r1 r2", 3, 3, regs{1: 6, 2: -2, 3: 4}},
		{"movi r1 6; movi r2 -2; sub r3 r1 r2", 3, 3, regs{1: 6, 2: -2, 3: 8}},
		{"movi r1 6; movi r2 -2; mul r3 r1 r2", 3, 3, regs{1: 6, 2: -2, 3: -12}},
		{"movi r1 6; movi r2 -2; high r3 r1 r2", 3, 3, regs{1: 6, 2: -2, 3: 5}},
		{"movi r1 -7; movi r2 2; div r3 r1 r2", 3, 3, regs{1: -7, 2: 2, 3: -3}},
		{"movi r1 -7; movi r2 2; rem r3 r1 r2", 3, 3, regs{1: -7, 2: 2, 3: -1}},
		{"movh r1 32768; movi r2 -1; div r3 r1 r2", 3, 3, regs{1: leastWord, 2: -1, 3: leastWord}},
		{"movh r1 32768; movi r2 -1; rem r3 r1 r2", 3, 3, regs{1: leastWord, 2: -1}},
		{"movi r1 12; movi r2 10; and r3 r1 r2", 3, 3, regs{1: 12, 2: 10, 3: 8}},
		{"movi r1 12; movi r2 10; or r3 r1 r2", 3, 3, regs{1: 12, 2: 10, 3: 14}},
		{"movi r1 12; movi r2 10; xor r3 r1 r2", 3, 3, regs{1: 12, 2: 10, 3: 6}},
		{"movi r1 -1; movi r2 1; less r3 r1 r2", 3, 3, regs{1: -1, 2: 1, 3: 1}},
		{"movi r1 -1; movi r2 1; less r3 r2 r1", 3, 3, regs{1: -1, 2: 1}},
		{"movi r1 -1; movi r2 1; low r3 r1 r2", 3, 3, regs{1: -1, 2: 1}},
		{"movi r1 -1; movi r2 1; low r3 r2 r1", 3, 3, regs{1: -1, 2: 1, 3: 1}},
		{"movi r1 -1; movi r2 -1; same r3 r1 r2", 3, 3, regs{1: -1, 2: -1, 3: 1}},
		{"movi r1 -1; movi r2 1; same r3 r1 r2", 3, 3, regs{1: -1, 2: 1}},
		{"movi r1 3; sub r1 r1 r1", 2, 2, regs{}},
		{"movi r1 3; addi r2 r1 -8", 2, 2, regs{1: 3, 2: -5}},
		{"movh r1 32768; addi r1 r1 -1", 2, 2, regs{1: mostWord}},
		{"addi r13 r13 -4; addi r1 r13 32767", 2, 2, regs{13: memory - 4, 1: memory + 32763}},
		{"movi r1 -9; store r1 r13 -1; load r2 r13 -1", 3, 3, regs{1: -9, 2: -9}},
		{"movi r1 60; store r1 r1 -7; movi r2 50; load r2 r2 3", 4, 4, regs{1: 60, 2: 60}},
		{"jump 2; movi r1 1; movi r2 2", 2, 3, regs{2: 2}},
		{"jump 0", 5, 0, regs{}},
		{"zero r1 2; movi r1 1; movi r2 2", 2, 3, regs{2: 2}},
		{"movi r1 -1; zero r1 0; movi r2 2", 3, 3, regs{1: -1, 2: 2}},
		{"movh r1 1; zero r1 0; movi r2 2", 3, 3, regs{1: 65536, 2: 2}},
		{"movi r5 1; call 3; #0; movi r2 2", 3, 4, regs{5: 1, 14: 2, 2: 2}},
		{"movi r5 4; callr r5; #0; #0; movi r2 2", 3, 5, regs{5: 4, 14: 2, 2: 2}},
		{"movi r14 4; callr r14; #0; #0; movi r2 2", 3, 5, regs{14: 2, 2: 2}},
		{"movi r5 3; jumpr r5; #0; movi r2 2", 3, 4, regs{5: 3, 2: 2}},
		{"call 2; exit r1; movi r1 8; jumpr r14", 3, 1, regs{14: 1, 1: 8}},
	} {
		m := api.Image{Code: assembled(t, c.texts), Memory: memory}
		checkRun(t, c.texts, m, c.steps, api.Stop{Steps: c.steps}, c.want.whole(c.pc))
	}
}

// C3: jump, zero, call, callr and jumpr go anywhere; there it is wrong a step later.
func TestGoingToAnAddressThatIsNone(t *testing.T) {
	for _, c := range []struct {
		texts string
		steps int
		pc    int
		want  regs
	}{
		{"movi r1 1", 1, 1, regs{1: 1}},
		{"jump 65535", 1, 65535, regs{}},
		{"jump 1", 1, 1, regs{}},
		{"zero r0 65535", 1, 65535, regs{}},
		{"call 40000", 1, 40000, regs{14: 1}},
		{"callr r13", 1, memory, regs{14: 1}},
		{"movi r1 -1; callr r1", 2, -1, regs{1: -1, 14: 2}},
		{"movi r1 -1; jumpr r1", 2, -1, regs{1: -1}},
		{"movh r1 32768; jumpr r1", 2, leastWord, regs{1: leastWord}},
		{"movi r1 -1; movh r1 32767; jumpr r1", 3, mostWord, regs{1: mostWord}},
		{"movi r1 3; jumpr r1; #0", 2, 3, regs{1: 3}},
	} {
		m := api.Image{Code: assembled(t, c.texts), Memory: memory}
		checkRun(t, c.texts, m, c.steps, api.Stop{Steps: c.steps}, c.want.whole(c.pc))
		stop := api.Stop{End: api.EndWrong, Steps: c.steps + 1}
		checkRun(t, c.texts, m, c.steps+1, stop, c.want.whole(c.pc))
		checkRun(t, c.texts, m, api.MaxFuel, stop, c.want.whole(c.pc))
	}
}

// C3: Data are no instructions, though their bits may be one's.
func TestDataAreNoInstructions(t *testing.T) {
	m := api.Image{Code: assembled(t, "jump 1"), Data: []int32{int32(assembled(t, "exit r0")[0])}, Memory: memory}
	checkRun(t, "Data", m, 9, api.Stop{End: api.EndWrong, Steps: 2}, regs{}.whole(1))
}

// C3: bits that are no instruction's.
func TestBitsThatAreNone(t *testing.T) {
	for _, text := range []string{"#00000000", "#1a000000", "#ff000000", "#ffffffff", "#01000001", "#04000010", "#18010000", "#13100000"} {
		m := api.Image{Code: assembled(t, "movi r1 4; "+text), Memory: memory}
		checkRun(t, text, m, 9, api.Stop{End: api.EndWrong, Steps: 2}, regs{1: 4}.whole(1))
	}
}

// C3 and C4: what ends, with all that is told of it. Each of them tells 3 ahead.
func TestEachEnd(t *testing.T) {
	for _, c := range []struct {
		texts string
		end   int
		value int32
		want  regs
	}{
		{"exit r1", api.EndExit, 3, regs{}},
		{"exit r0", api.EndExit, 0, regs{}},
		{"div r2 r1 r0", api.EndDivided, 0, regs{}},
		{"rem r2 r1 r0", api.EndDivided, 0, regs{}},
		{"div r13 r0 r0", api.EndDivided, 0, regs{}},
		{"rem r1 r1 r0", api.EndDivided, 0, regs{}},
		{"load r1 r0 -1", api.EndWrong, 0, regs{}},
		{"load r1 r1 -4", api.EndWrong, 0, regs{}},
		{"load r1 r13 0", api.EndWrong, 0, regs{}},
		{"load r1 r0 100", api.EndWrong, 0, regs{}},
		{"load r1 r0 32767", api.EndWrong, 0, regs{}},
		{"load r13 r0 -32768", api.EndWrong, 0, regs{}},
		{"store r1 r0 -1", api.EndWrong, 0, regs{}},
		{"store r1 r1 -4", api.EndWrong, 0, regs{}},
		{"store r1 r13 0", api.EndWrong, 0, regs{}},
		{"store r1 r0 100", api.EndWrong, 0, regs{}},
		{"store r1 r0 0", api.EndWrong, 0, regs{}},
		{"store r1 r1 -1", api.EndWrong, 0, regs{}},
		{"movi r13 -1", api.EndFull, 0, regs{13: -1}},
		{"addi r13 r13 -98", api.EndFull, 0, regs{13: 2}},
		{"addi r13 r13 1", api.EndWrong, 0, regs{13: 101}},
		{"#00000000", api.EndWrong, 0, regs{}},
	} {
		m := api.Image{Code: assembled(t, "movi r1 3; out r1; "+c.texts), Memory: memory}
		out := []int32{3}
		c.want[1] = 3
		stop := api.Stop{End: c.end, Value: c.value, Out: out, Steps: 3}
		checkRun(t, c.texts, m, 3, stop, c.want.whole(2))
		checkRun(t, c.texts, m, api.MaxFuel, stop, c.want.whole(2))
		ahead := regs{1: 3}.whole(2)
		checkRun(t, c.texts+", a step ahead", m, 2, api.Stop{Out: out, Steps: 2}, ahead)
	}
}

// C3: addresses at both edges of what may be stored to, and of the memory; words far from 0 do not come round.
func TestAddressesAtTheEdges(t *testing.T) {
	const first, last = 8, memory - 1
	for _, c := range []struct {
		base        int32
		imm         int
		load, store bool
	}{
		{0, 0, true, false}, {first, 0, true, true}, {first, -1, true, false}, {first - 1, 1, true, true},
		{0, first - 1, true, false}, {0, last, true, true}, {last, 0, true, true}, {last, 1, false, false},
		{0, -1, false, false}, {-1, 1, true, false}, {-1, 0, false, false}, {32767, -32768, false, false},
		{32768, -32768, true, false}, {32768 + last, -32768, true, true}, {32768 + memory, -32768, false, false},
		{-32767 + last, 32767, true, true}, {-32767 + memory, 32767, false, false}, {-32767, 32767, true, false},
		{-32768, 32767, false, false}, {mostWord, 0, false, false}, {mostWord, 1, false, false},
		{mostWord, 32767, false, false}, {leastWord, 0, false, false}, {leastWord, -1, false, false},
		{leastWord, -32768, false, false}, {1 << 16, 0, false, false}, {-1 << 16, 9, false, false},
	} {
		low, high := int(int16(c.base)), int(uint32(c.base)>>16)
		for kind, right := range map[string]bool{"load": c.load, "store": c.store} {
			texts := fmt.Sprintf("movi r1 %d; movh r1 %d; %s r0 r1 %d; exit r13; #0; #0; #0; #0", low, high, kind, c.imm)
			m := api.Image{Code: assembled(t, texts), Memory: memory}
			stop := api.Stop{End: api.EndWrong, Steps: 3}
			if right {
				stop = api.Stop{End: api.EndExit, Value: memory, Steps: 4}
			}
			if s, e := machine.Run(m, 9); !sameStop(s, stop) || e != api.OK {
				t.Errorf("%s at %d and %d: %+v %d, not %+v", kind, c.base, c.imm, s, e, stop)
			}
		}
	}
}

// C3: Data may be stored to, from their first word on.
func TestStoreIntoData(t *testing.T) {
	m := api.Image{Code: assembled(t, "store r13 r0 4; store r13 r0 5; load r1 r0 4; load r2 r0 5"), Data: []int32{8, 9}, Memory: memory}
	checkRun(t, "Data", m, 4, api.Stop{Steps: 4}, regs{1: memory, 2: memory}.whole(4))
	m.Code = assembled(t, "store r13 r0 3; #0; #0; #0")
	checkRun(t, "Code", m, 4, api.Stop{End: api.EndWrong, Steps: 1}, regs{}.whole(0))
}
