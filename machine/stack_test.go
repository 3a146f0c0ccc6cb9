package machine_test

import (
	"fmt"
	"testing"

	"scarfjoint/api"
)

// Images of the tests of register 13 all have so many words of Code and Data.
const low = 12

// padded gives an image with LOW of low whose instructions are these, and whose last word of Data is w.
func padded(t *testing.T, texts string, w int32) api.Image {
	t.Helper()
	l := assembled(t, texts)
	data := make([]int32, low-len(l))
	data[len(data)-1] = w
	return api.Image{Code: l, Data: data, Memory: memory}
}

// into gives the texts of two instructions that give a register a word.
func into(register int, w int32) string {
	return fmt.Sprintf("movi r%d %d; movh r%d %d", register, int16(w), register, uint32(w)>>16)
}

// wantGiven says how giving 13 a word ends: EndFuel, if it does not.
func wantGiven(w int32) int {
	switch {
	case w < low:
		return api.EndFull
	case w > memory:
		return api.EndWrong
	}
	return api.EndFuel
}

// checkGiven runs up to the instruction that gives 13 the word w, the last one of the texts, and looks at the end, at 13 and at PC.
func checkGiven(t *testing.T, name string, m api.Image, w int32, at int) {
	t.Helper()
	end, pc := wantGiven(w), at
	if end == api.EndFuel {
		pc = at + 1
	}
	shown, _ := run(t, m, at)
	shown.R[13], shown.PC = w, pc
	checkRun(t, fmt.Sprintf("%s gives %d", name, w), m, at+1, api.Stop{End: end, Steps: at + 1}, shown)
	if end != api.EndFuel {
		checkRun(t, fmt.Sprintf("%s gives %d, with fuel left", name, w), m, api.MaxFuel, api.Stop{End: end, Steps: at + 1}, shown)
	}
}

// C3 and C4: 13 is given words at both edges, and beyond them, by each kind of instruction that can make any word.
func TestGivingTheStackRegister(t *testing.T) {
	for _, w := range []int32{leastWord, -65536, -1, 0, 1, low - 1, low, low + 1, memory - 1, memory, memory + 1, 32767, 65536 + low, mostWord} {
		for _, text := range []string{"mov r13 r1", "add r13 r1 r0", "sub r13 r1 r0", "mul r13 r1 r2", "div r13 r1 r2", "and r13 r1 r1", "or r13 r0 r1", "xor r13 r1 r0", "addi r13 r1 0"} {
			checkGiven(t, text, padded(t, into(1, w)+"; movi r2 1; "+text, 0), w, 3)
		}
		checkGiven(t, "load", padded(t, fmt.Sprintf("load r13 r0 %d", low-1), w), w, 0)
		checkGiven(t, "addi of one more", padded(t, into(1, w-1)+"; addi r13 r1 1", 0), w, 2)
		if w == int32(int16(w)) {
			checkGiven(t, "movi", padded(t, fmt.Sprintf("movi r13 %d", w), 0), w, 0)
			checkGiven(t, "addi of itself", padded(t, fmt.Sprintf("addi r13 r13 %d", min(w, 32667)-memory), 0), min(w, 32667), 0)
		}
	}
}

// C3: movh, high, rem and what answers 1 or 0 make words of their own.
func TestGivingTheStackRegisterByOthers(t *testing.T) {
	for _, c := range []struct {
		ahead, text string
		at          int
		w           int32
	}{
		{"movi r13 12", "movh r13 0", 1, low},
		{"movi r13 12", "movh r13 1", 1, 65536 + low},
		{"movi r13 12", "movh r13 65535", 1, -65536 + low},
		{"movi r1 0", "movh r13 0", 1, memory},
		{"movi r1 0", "movh r13 1", 1, 65536 + memory},
		{"movi r1 0", "movh r13 32768", 1, leastWord + memory},
		{"movh r1 11; movh r2 1", "high r13 r1 r2", 2, low - 1},
		{"movh r1 12; movh r2 1", "high r13 r1 r2", 2, low},
		{"movh r1 100; movh r2 1", "high r13 r1 r2", 2, memory},
		{"movh r1 101; movh r2 1", "high r13 r1 r2", 2, memory + 1},
		{"movi r1 -1; movi r2 -1", "high r13 r1 r2", 2, -2},
		{"movi r1 211; movi r2 200", "rem r13 r1 r2", 2, low - 1},
		{"movi r1 212; movi r2 200", "rem r13 r1 r2", 2, low},
		{"movi r1 300; movi r2 200", "rem r13 r1 r2", 2, memory},
		{"movi r1 301; movi r2 200", "rem r13 r1 r2", 2, memory + 1},
		{"movi r1 -212; movi r2 200", "rem r13 r1 r2", 2, -low},
		{"movi r1 1", "less r13 r0 r1", 1, 1},
		{"movi r1 1", "less r13 r1 r0", 1, 0},
		{"movi r1 1", "low r13 r0 r1", 1, 1},
		{"movi r1 1", "low r13 r1 r0", 1, 0},
		{"movi r1 1", "same r13 r1 r1", 1, 1},
		{"movi r1 1", "same r13 r1 r0", 1, 0},
	} {
		checkGiven(t, c.text, padded(t, c.ahead+"; "+c.text, 0), c.w, c.at)
	}
}

// C3: an answer of 1 is LOW, where Code has one word and there are no Data.
func TestLeastLow(t *testing.T) {
	m := api.Image{Code: assembled(t, "same r13 r0 r0"), Memory: 32}
	checkRun(t, "same", m, 1, api.Stop{Steps: 1}, regs{13: 1}.whole(1))
	m.Data = []int32{0}
	checkRun(t, "same, with Data", m, 1, api.Stop{End: api.EndFull, Steps: 1}, regs{13: 1}.whole(0))
	m = api.Image{Code: assembled(t, "less r13 r0 r0"), Memory: 32}
	checkRun(t, "less", m, 1, api.Stop{End: api.EndFull, Steps: 1}, regs{13: 0}.whole(0))
}

// C3: the word that 13 has already ends nothing, and no other register's word does.
func TestGivingWithoutAnEnd(t *testing.T) {
	for _, text := range []string{"mov r13 r13", "movi r13 100", "movh r13 0", "addi r13 r13 0", "and r13 r13 r13", "add r13 r13 r0"} {
		checkGiven(t, text, padded(t, text, 0), memory, 0)
	}
	for n := range 16 {
		if n == 13 {
			continue
		}
		for _, w := range []int32{leastWord, -1, low - 1, memory + 1, mostWord} {
			shown := regs{n: w}.whole(2)
			checkRun(t, fmt.Sprintf("r%d gets %d", n, w), padded(t, into(n, w), 0), 2, api.Stop{Steps: 2}, shown)
		}
	}
}

// C3: what reads 13 alone gives it nothing.
func TestReadingTheStackRegister(t *testing.T) {
	m := padded(t, "movi r13 12; out r13; store r13 r13 0; zero r13 0; jump 6; #0; exit r13", 0)
	stop := api.Stop{End: api.EndExit, Value: low, Out: []int32{low}, Steps: 6}
	checkRun(t, "reads", m, 9, stop, regs{13: low}.whole(6))
}
