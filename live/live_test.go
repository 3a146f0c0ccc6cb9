package live_test

import (
	"slices"
	"testing"

	"scarfjoint/api"
)

// M2: the chapter's example.
func TestExample(t *testing.T) {
	lives(t, plain(constant(0), put(0), back(0)), "-; 0; 0")
}

// kind is an order with what it reads and what it writes, of the registers 0 to 8.
type kind struct {
	o             api.Three
	reads, writes []int
}

// kinds are orders of all kinds that lead to the next one alone.
func kinds() []kind {
	several := function(triple, whole, long)
	return []kind{
		{constant(3), nil, row(3)},
		{duplicate(3, 5), row(5), row(3)},
		{duplicate(4, 4), row(4), row(4)},
		{sum(3, 6, 5), row(5, 6), row(3)},
		{sum(3, 5, 5), row(5), row(3)},
		{sum(3, 3, 5), row(3, 5), row(3)},
		{sum(3, 5, 3), row(3, 5), row(3)},
		{sum(3, 3, 3), row(3), row(3)},
		{load(3), nil, row(3)},
		{store(3), row(3), nil},
		{address(3), nil, row(3)},
		{put(3), row(3), nil},
		{count(3), nil, row(3)},
		{extra(3, 5), row(5), row(3)},
		{extra(3, 3), row(3), row(3)},
		{call(row(3), function(whole)), nil, row(3)},
		{call(row(3), function(whole, whole), 3), row(3), row(3)},
		{call(row(8, 0, 4), several, 6, 1, 2), row(1, 2, 6), row(0, 4, 8)},
		{call(row(8, 0, 4), several, 4, 1, 4), row(1, 4), row(0, 4, 8)},
		{call(row(8, 0, 4), several, 4, 8, 0), row(0, 4, 8), row(0, 4, 8)},
		{call(row(5), many(function(whole)), 7, 2, 5, 2), row(2, 5, 7), row(5)},
		{callr(row(3), function(whole), 5), row(5), row(3)},
		{callr(row(3), function(whole), 3), row(3), row(3)},
		{callr(row(8, 0, 4), several, 7, 6, 1, 2), row(1, 2, 6, 7), row(0, 4, 8)},
		{callr(row(8, 0, 4), several, 8, 6, 1, 2), row(1, 2, 6, 8), row(0, 4, 8)},
		{callr(row(8, 0, 4), several, 1, 1, 4, 2), row(1, 2, 4), row(0, 4, 8)},
		{callr(row(5), many(function(whole)), 7, 2, 5, 2), row(2, 5, 7), row(5)},
	}
}

// M1: each kind by itself. Where all registers are read behind it, those are live ahead of it that it does not write, or that it reads; where none is, those that it reads.
func TestKinds(t *testing.T) {
	seen := map[int]int{api.TJump: 1, api.TZero: 1, api.TReturn: 1}
	for _, k := range kinds() {
		seen[k.o.Op]++
		var all []int
		for register := range 9 {
			if slices.Contains(k.reads, register) || !slices.Contains(k.writes, register) {
				all = append(all, register)
			}
		}
		reader := call(row(9), function(whole, triple, triple, triple), from(0, 9)...)
		lives(t, body(many(function(whole)), 10, k.o, reader, back(9)), told([][]int{all, from(0, 9), {9}}))
		lives(t, body(many(function(whole)), 10, k.o, constant(9), back(9)), told([][]int{k.reads, nil, {9}}))
	}
	if len(seen) != api.TExtra {
		t.Error("kinds that are not tried:", seen)
	}
}

// M1: a number, a name and a type are neither read nor written, and nobody is led by them.
func TestOtherFields(t *testing.T) {
	b := plain(constant(1), load(2), sum(3, 1, 2), jump(5), put(8), store(3), back(3))
	b.Code[0].N, b.Code[1].N, b.Code[2].N, b.Code[5].N = 4, 1, 4, 1
	lives(t, b, "-; 1; 1 2; 3; 3 8; 3; 3")
}

// M1: what a TReturn reads; it leads to none, also not to the next one.
func TestReturns(t *testing.T) {
	lives(t, plain(back(4)), "4")
	lives(t, plain(back(4), put(5), back(6)), "4; 5 6; 6")
	lives(t, body(function(long), 10, back(5, 2)), "2 5")
	lives(t, body(function(triple), 10, back(5, 9, 0), put(3), back(1, 1, 1)), "0 5 9; 1 3; 1")
	lives(t, body(function(wide), 12, back(11, 10, 9, 8, 7, 6, 5, 4, 3, 2, 1, 0)), "0 1 2 3 4 5 6 7 8 9 10 11")
	// A result has one word at least, so that a TReturn with none may not be.
	refuses(t, plain(back()))
	refuses(t, body(function(triple), 10, back()))
}

// M1: a row without jumps.
func TestRow(t *testing.T) {
	lives(t, plain(constant(0), constant(1), sum(2, 0, 1), put(2), sum(0, 2, 1), put(0), constant(2), back(2)),
		"-; 0; 0 1; 1 2; 1 2; 0; -; 2")
	lives(t, plain(put(5), put(4), put(3), put(4), back(5)), "3 4 5; 3 4 5; 3 4 5; 4 5; 5")
	lives(t, plain(sum(1, 1, 2), sum(2, 2, 1), sum(1, 2, 2), back(1)), "1 2; 1 2; 2; 1")
}

// M1: a TJump leads to N alone, ahead and back.
func TestJumps(t *testing.T) {
	lives(t, plain(jump(1), back(3)), "3; 3")
	lives(t, plain(jump(2), put(1), put(2), back(3)), "2 3; 1 2 3; 2 3; 3")
	lives(t, plain(jump(2), constant(3), put(2), back(3)), "2 3; 2; 2 3; 3")
	lives(t, plain(jump(3), put(1), back(2), put(3), jump(1)), "1 2 3; 1 2; 2; 1 2 3; 1 2")
	lives(t, plain(jump(4), back(0), jump(1), jump(2), jump(3)), "0; 0; 0; 0; 0")
	lives(t, plain(put(1), constant(2), put(2), jump(0)), "1; 1; 1 2; 1")
}

// M1: a TZero leads to the next one and to N: the same, one ahead, one back, itself, the first one.
func TestZeros(t *testing.T) {
	lives(t, plain(zero(4, 1), back(3)), "3 4; 3")
	lives(t, plain(zero(4, 2), put(1), put(2), back(3)), "1 2 3 4; 1 2 3; 2 3; 3")
	lives(t, plain(zero(4, 3), constant(3), put(2), back(3)), "2 3 4; 2; 2 3; 3")
	lives(t, plain(put(1), constant(2), zero(4, 1), back(3)), "1 3 4; 3 4; 3 4; 3")
	lives(t, plain(put(1), constant(2), zero(4, 0), back(3)), "1 3 4; 1 3 4; 1 3 4; 3")
	lives(t, plain(put(1), zero(4, 1), constant(4), back(4)), "1 4; 4; -; 4")
	lives(t, plain(constant(4), zero(4, 1), back(3)), "3; 3 4; 3")
	lives(t, plain(zero(4, 0), jump(1)), "4; -")
	// One whose N is the last order, or in between two ends.
	lives(t, plain(zero(4, 2), back(1), jump(3), back(2)), "1 2 4; 1; 2; 2")
}

// M1: loops within one another.
func TestLoops(t *testing.T) {
	// 0 counts outer turns, 1 inner ones, 2 is 1, 3 is told, 4 is what each inner loop begins with.
	lives(t, plain(
		zero(0, 8), duplicate(1, 4), zero(1, 6), put(3), sum(1, 1, 2), jump(2), sum(0, 0, 2), jump(0), back(0),
	), "0 2 3 4; 0 2 3 4; 0 1 2 3 4; 0 1 2 3 4; 0 1 2 3 4; 0 1 2 3 4; 0 2 3 4; 0 2 3 4; 0")
	// 5 is set anew in each outer turn, and read in the inner loop alone.
	lives(t, plain(constant(5), zero(5, 1), zero(6, 1), zero(7, 0), back(8)), "6 7 8; 5 6 7 8; 5 6 7 8; 6 7 8; 8")
	// Three of them, which end with one another; the innermost writes what the outermost reads.
	lives(t, plain(put(1), constant(1), constant(2), zero(2, 2), zero(1, 1), zero(3, 0), back(3)),
		"1 3; 3; 1 3; 1 2 3; 1 3; 1 3; 3")
	// What is live comes into a loop at its midst, and goes round.
	lives(t, plain(jump(3), put(1), put(2), put(3), zero(4, 1), back(5)), "1 2 3 4 5; 1 2 3 4 5; 1 2 3 4 5; 1 2 3 4 5; 1 2 3 4 5; 5")
	// Two loops that lie across one another.
	lives(t, plain(put(1), put(2), zero(3, 0), put(4), zero(5, 1), back(6)),
		"1 2 3 4 5 6; 1 2 3 4 5 6; 1 2 3 4 5 6; 1 2 3 4 5 6; 1 2 3 4 5 6; 6")
}

// M1: loops that are never left: ways without an end read what they read.
func TestLoopsThatAreNeverLeft(t *testing.T) {
	lives(t, plain(jump(0)), "-")
	lives(t, plain(jump(1), jump(0)), "-; -")
	lives(t, plain(put(3), jump(0)), "3; 3")
	lives(t, plain(constant(3), put(3), jump(1)), "-; 3; 3")
	lives(t, plain(constant(3), put(3), jump(0)), "-; 3; -")
	lives(t, plain(zero(3, 3), sum(4, 4, 5), jump(1), back(6)), "3 4 5 6; 4 5; 4 5; 6")
	lives(t, plain(constant(4), zero(3, 0), jump(2), back(4)), "3; 3; -; 4")
}

// M1: orders to which none leads have registers that are live ahead of them, which is nothing to others.
func TestOrdersToWhichNoneLeads(t *testing.T) {
	lives(t, plain(back(0), put(1), jump(0)), "0; 0 1; 0")
	lives(t, plain(jump(3), put(1), back(2), back(3)), "3; 1 2; 2; 3")
	lives(t, plain(back(0), zero(1, 0), put(2), jump(1)), "0; 0 1 2; 0 1 2; 0 1 2")
	lives(t, plain(jump(0), constant(1), put(1), put(2), back(3)), "-; 2 3; 1 2 3; 2 3; 3")
}

// M1: a register that is read on one way alone.
func TestOneWayAlone(t *testing.T) {
	lives(t, plain(zero(0, 3), put(1), back(2), back(3)), "0 1 2 3; 1 2; 2; 3")
	lives(t, plain(zero(0, 2), back(2), put(1), back(3)), "0 1 2 3; 2; 1 3; 3")
	lives(t, plain(zero(0, 3), constant(1), back(2), back(1)), "0 1 2; 2; 2; 1")
}

// M1: a register that is written on one way, or on both, and read behind where the ways meet.
func TestWhereWaysMeet(t *testing.T) {
	lives(t, plain(zero(0, 2), constant(1), back(1)), "0 1; -; 1")
	lives(t, plain(zero(0, 3), constant(1), jump(4), put(2), back(1)), "0 1 2; -; 1; 1 2; 1")
	lives(t, plain(zero(0, 3), put(2), jump(4), constant(1), back(1)), "0 1 2; 1 2; 1; -; 1")
	lives(t, plain(zero(0, 3), constant(1), jump(4), constant(1), back(1)), "0; -; 1; -; 1")
	// The one way writes it by what it reads of it.
	lives(t, plain(zero(0, 2), sum(1, 1, 1), back(1)), "0 1; 1; 1")
}

// M1: a register that is read ahead of its first write is live from the first order on: a parameter's, and another one.
func TestReadAheadOfItsFirstWrite(t *testing.T) {
	x := function(whole, whole, long)
	lives(t, body(x, 3, sum(0, 1, 2), put(0), back(0)), "1 2; 0; 0")
	lives(t, body(x, 9, sum(0, 7, 2), constant(7), put(7), back(0)), "2 7; 0; 0 7; 0")
	lives(t, body(x, 9, constant(8), put(7), constant(7), back(7)), "7; 7; -; 7")
	// A parameter that is written ahead of all reads, and one that is never read.
	lives(t, body(x, 9, constant(0), put(0), back(2)), "2; 0 2; 2")
}

// M1: what is written and never read is live nowhere; nor is what is written again ahead of each read.
func TestWrittenAndNeverRead(t *testing.T) {
	lives(t, plain(constant(0), constant(1), load(2), address(3), back(1)), "-; -; 1; 1; 1")
	lives(t, plain(constant(1), constant(1), back(1)), "-; -; 1")
	lives(t, plain(constant(1), duplicate(1, 2), back(1)), "2; 2; 1")
	lives(t, plain(call(row(0, 1, 2), function(triple)), constant(1), back(1)), "-; -; 1")
}

// M1, M2: bodies with no register, and with one.
func TestFewRegisters(t *testing.T) {
	lives(t, body(function(whole), 0, jump(0)), "-")
	lives(t, body(function(whole), 0, jump(2), jump(0), jump(1)), "-; -; -")
	lives(t, body(many(function(long)), 0, jump(0)), "-")
	lives(t, body(function(whole), 1, back(0)), "0")
	lives(t, body(function(whole), 1, jump(0)), "-")
	lives(t, body(function(triple), 1, back(0, 0, 0)), "0")
	lives(t, body(function(whole, whole), 1, zero(0, 0), duplicate(0, 0), constant(0), zero(0, 1), back(0)), "0; 0; -; 0; 0")
}

// M2: what is live rises and stands there once, however it is read; static bodies are as others.
func TestRising(t *testing.T) {
	s := from(0, 10)
	slices.Reverse(s)
	x := many(function(whole))
	lives(t, plain(call(row(3), x, s...), back(3)), "0 1 2 3 4 5 6 7 8 9; 3")
	lives(t, plain(call(row(3), x, 5, 1, 5, 1, 5, 1, 9, 9, 0), back(3)), "0 1 5 9; 3")
	lives(t, plain(put(9), put(8), put(9), put(0), put(8), put(0), zero(9, 0), back(8)), "0 8 9; 0 8 9; 0 8 9; 0 8 9; 0 8 9; 0 8 9; 0 8 9; 8")
	b := plain(put(9), back(2))
	b.Static = true
	lives(t, b, "2 9; 2")
}
