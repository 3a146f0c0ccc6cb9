package colour_test

import (
	"slices"
	"testing"

	"scarfjoint/api"
)

// N2: the chapter's example.
func TestExample(t *testing.T) {
	liesApart(t, plain(constant(0), constant(1), sum(0, 0, 1), back(0)), row(0, 1))
}

// N1: each register has a place, also one that no order names, one that is written and never read, and one that is read and never written.
func TestEachRegister(t *testing.T) {
	lies(t, plain(back(4)))
	lies(t, plain(constant(4), jump(0)))
	lies(t, plain(put(9), constant(3), back(0)))
	lies(t, body(function(whole), 500, put(9), constant(499), back(0)))
	lies(t, body(function(whole, wide, wide), 24, jump(0)))
	b := plain(put(9), constant(3), back(0))
	b.Static = true
	lies(t, b)
}

// N1: bodies with no register, and with one.
func TestFewRegisters(t *testing.T) {
	for _, b := range []api.Body{
		body(function(whole), 0, jump(0)),
		body(function(whole), 0, jump(2), jump(0), jump(1)),
		body(many(function(wide)), 0, jump(0)),
		body(function(whole), 1, back(0)),
		body(function(whole), 1, jump(0)),
		body(function(triple), 1, back(0, 0, 0)),
		body(function(whole, whole), 1, jump(0)),
		body(function(whole, whole), 1, zero(0, 0), duplicate(0, 0), constant(0), zero(0, 1), back(0)),
	} {
		if l := lies(t, b); len(l) != b.Regs {
			t.Error(text(b), told(l))
		}
	}
	liesKept(t, body(function(whole, whole), 2, call(row(1), function(whole, whole), 0), back(0)), 0)
}

// N1, N2: as many in use at once as there are in the machine, one fewer, one more, and far more: as the body begins, and one order behind the other.
func TestManyAtOnce(t *testing.T) {
	for _, n := range row(1, 2, 11, 12, 13, 14, 24, 63, 64, 65, 129) {
		some := from(0, n)
		liesApart(t, body(function(whole), n, append(all(some...), back(0))...), some)
		b := body(function(whole), n, append(append(constants(some...), all(some...)...), back(0))...)
		liesApart(t, b, some)
		b.Regs++
		b.Code[len(b.Code)-1] = jump(0)
		liesApart(t, b, some)
	}
}

// N1, N2 (c): as many across a call as calls keep, one fewer, one more, and far more; beside them some that are in use, but not across it.
func TestManyAcrossACall(t *testing.T) {
	for _, n := range row(1, 7, 8, 9, 12, 13, 40, 100) {
		some := from(0, n)
		code := append(constants(some...), call(row(n), function(whole)))
		code = append(append(code, constants(from(n+1, 6)...)...), all(from(n, 7)...)...)
		b := body(function(whole), n+7, append(append(code, all(some...)...), back(0))...)
		liesApart(t, b, from(0, n+7))
		liesKept(t, b, some...)
	}
}

// N2 (a): two parameters that are both read.
func TestParameters(t *testing.T) {
	x := function(whole, whole, whole)
	liesApart(t, body(x, 2, sum(0, 0, 1), back(0)), row(0, 1))
	liesApart(t, body(x, 2, put(1), put(0), back(1)), row(0, 1))
	liesApart(t, body(x, 3, zero(0, 2), back(0), back(1)), row(0, 1))
	liesApart(t, body(function(long, long, long), 4, sum(0, 0, 2), sum(1, 1, 3), back(0, 1)), from(0, 4))
	liesApart(t, body(function(whole, wide, wide, wide, wide, wide, wide), 72, append(all(from(0, 72)...), back(0))...), from(0, 72))
	// One that is not read, and one that is written ahead of all reads.
	liesApart(t, body(function(whole, triple), 3, sum(0, 0, 2), back(0)), row(0, 2))
	liesApart(t, body(function(whole, triple), 3, constant(1), sum(0, 0, 2), sum(0, 0, 1), back(0)), from(0, 3))
}

// N2 (a): a register that is read ahead of its first write is 0, and lies apart from the parameters and from others like it.
func TestReadAheadOfItsFirstWrite(t *testing.T) {
	x := function(whole, whole)
	liesApart(t, body(x, 2, sum(0, 0, 1), back(0)), row(0, 1))
	liesApart(t, body(x, 9, put(7), put(0), constant(7), back(7)), row(0, 7))
	liesApart(t, body(x, 9, zero(0, 2), constant(7), put(7), back(8)), row(0, 7, 8))
	liesApart(t, body(function(whole), 2, sum(0, 0, 1), jump(0)), row(0, 1))
	liesApart(t, body(x, 30, append(all(from(0, 30)...), jump(0))...), from(0, 30))
}

// N2 (b): a register that is written and never read lies apart from what is live behind the order, by each kind of order that writes.
func TestWrittenAndNeverRead(t *testing.T) {
	x := function(whole)
	for _, o := range []api.Three{
		constant(3), duplicate(3, 4), duplicate(3, 5), sum(3, 4, 5), load(3), address(3), count(3), extra(3, 4),
		call(row(3), x), call(row(3), many(x), 4, 5), callr(row(3), x, 4), callr(row(3), many(x), 4, 5),
	} {
		liesApart(t, body(many(function(whole)), 6, o, back(5)), row(3, 5))
		liesApart(t, body(many(function(whole)), 6, constant(5), o, put(5), back(4)), row(3, 4, 5))
		liesApart(t, body(many(function(whole)), 6, constant(4), constant(5), jump(3), o, put(5), back(4)), row(3, 4, 5))
		// No order leads to the one that writes.
		liesApart(t, body(many(function(whole)), 6, jump(0), o, back(5)), row(3, 5))
	}
}

// N2 (b): what a call writes lies apart from one another and from what is live behind it, also where some are never read.
func TestCallsThatWriteSeveral(t *testing.T) {
	x := function(triple)
	for _, o := range []api.Three{call(row(3, 1, 2), x), callr(row(3, 1, 2), x, 0), callr(row(3, 1, 2), x, 2)} {
		liesApart(t, plain(o, back(0)), from(0, 4))
		liesApart(t, plain(o, back(1)), from(1, 3))
		liesApart(t, plain(o, sum(1, 1, 3), back(1)), from(1, 3))
		liesApart(t, plain(o, put(1), put(2), put(3), back(4)), from(1, 4))
		liesApart(t, plain(o, jump(0)), from(1, 3))
	}
	some := from(0, 12)
	liesApart(t, body(function(whole), 12, call(some, function(wide)), back(5)), some)
	liesApart(t, body(function(whole), 13, call(some, function(wide)), back(12)), from(0, 13))
	liesApart(t, body(function(whole), 40, append(append([]api.Three{call(some, function(wide))}, all(from(12, 28)...)...), back(0))...), from(0, 40))
}

// N2 (b): an order that reads and writes the same register.
func TestReadAndWritten(t *testing.T) {
	liesApart(t, plain(sum(1, 1, 2), put(2), back(1)), row(1, 2))
	liesApart(t, plain(constant(1), constant(2), sum(2, 1, 2), sum(1, 1, 2), back(1)), row(1, 2))
	liesApart(t, plain(duplicate(1, 1), put(2), back(1)), row(1, 2))
	liesApart(t, plain(constant(2), call(row(1), function(whole, whole), 1), put(2), back(1)), row(1, 2))
	liesApart(t, body(many(function(whole)), 3, count(1), constant(2), extra(1, 1), put(2), back(1)), row(1, 2))
}

// N2 (b): a TCopy's two lie apart where what is copied is read later, for either may be written then; where it is not, they may lie together.
func TestCopies(t *testing.T) {
	liesApart(t, plain(constant(0), duplicate(1, 0), sum(0, 0, 1), back(0)), row(0, 1))
	liesApart(t, plain(constant(0), duplicate(1, 0), sum(1, 1, 1), put(1), back(0)), row(0, 1))
	liesApart(t, plain(constant(0), duplicate(1, 0), back(0)), row(0, 1))
	liesApart(t, plain(duplicate(1, 0), duplicate(2, 1), duplicate(0, 2), sum(0, 0, 1), sum(0, 0, 2), back(0)), row(1, 2), row(0, 1, 2))
	lies(t, plain(constant(0), duplicate(1, 0), back(1)))
}

// N2 (b): registers that stay live around a loop lie apart from what is written in it, also from what is written behind their last read there.
func TestLoops(t *testing.T) {
	// 0 counts, 1 is what it goes down by, 2 is written and read within each turn.
	liesApart(t, plain(zero(0, 6), put(1), constant(2), put(2), sum(0, 0, 1), jump(0), back(0)), row(0, 1, 2))
	liesApart(t, plain(constant(0), constant(1), constant(2), put(2), zero(0, 2), back(1)), row(0, 1), row(0, 2), row(1, 2))
	// 1 and 2 are read at the beginning of a turn alone; 3 and 4 are written behind that.
	liesApart(t, plain(put(1), put(2), constant(3), put(3), constant(4), zero(4, 0), back(4)), row(1, 2, 3), row(1, 2, 4))
	// Loops within one another: 1 is read in the outer one, 2 in the inner one, 3 is written there and never read.
	liesApart(t, plain(put(1), constant(2), put(2), constant(3), zero(2, 2), zero(1, 0), back(1)), row(1, 2, 3))
	// A loop that is come into at its midst, and one that is never left.
	liesApart(t, plain(jump(3), constant(1), put(1), put(2), constant(3), zero(3, 1), back(3)), row(1, 2), row(2, 3))
	liesApart(t, plain(constant(1), constant(2), put(1), put(2), jump(2)), row(1, 2))
	some := from(0, 20)
	liesApart(t, body(function(whole), 21, append(append(constants(some...), all(some...)...), constant(20), jump(20))...), from(0, 21))
}

// N2 (b): a register that is live on one way alone behind where ways part.
func TestOneWayAlone(t *testing.T) {
	liesApart(t, plain(constant(1), constant(2), zero(1, 4), back(1), back(2)), row(1, 2))
	liesApart(t, plain(constant(1), zero(0, 4), constant(2), back(2), back(1)), row(0, 1))
	liesApart(t, plain(constant(1), zero(0, 4), constant(2), put(1), back(2)), row(1, 2), row(0, 1), row(0, 2))
}

// N2 (c): what is live behind a call, and not written by it, is kept: with a TCall and a TCallr.
func TestAcrossCalls(t *testing.T) {
	x, y := function(whole), function(whole, whole)
	liesKept(t, plain(constant(0), call(row(1), x), sum(0, 0, 1), back(0)), 0)
	liesKept(t, plain(constant(0), call(row(1), y, 0), sum(0, 0, 1), back(0)), 0)
	liesKept(t, plain(constant(0), callr(row(1), x, 2), sum(0, 0, 1), back(0)), 0)
	liesKept(t, plain(constant(0), callr(row(1), x, 0), sum(0, 0, 1), back(0)), 0)
	liesKept(t, plain(constant(0), callr(row(1), y, 2, 0), sum(0, 0, 1), back(0)), 0)
	liesKept(t, plain(callr(row(1), y, 2, 0), put(2), back(0)), 0, 2)
	liesKept(t, plain(call(row(1), x), back(0)), 0)
	liesKept(t, plain(callr(row(1), x, 1), back(0)), 0)
	// Parameters, and such as are read ahead of their first write.
	liesKept(t, body(function(whole, triple), 5, call(row(4), x), put(0), put(2), back(3)), 0, 2, 3)
	// No order leads to the call.
	liesKept(t, plain(back(1), call(row(2), x), back(0)), 0)
	// What it writes may lie there: but what is live across another call may not.
	liesKept(t, plain(call(row(2), x), callr(row(3), x, 2), sum(2, 2, 3), back(2)), 2)
	liesKept(t, plain(call(row(2, 3, 4), function(triple)), call(row(3), x), put(2), put(3), back(4)), 2, 4)
}

// N2 (c): calls one behind the other: what is live across any of them is kept, wherever it was written.
func TestCallsOneBehindTheOther(t *testing.T) {
	x, y := function(whole), function(whole, whole, whole)
	liesKept(t, plain(call(row(0), x), call(row(1), x), call(row(2), x), sum(0, 0, 1), sum(0, 0, 2), back(0)), 0, 1)
	liesKept(t, plain(call(row(0), x), call(row(1), x), call(row(2), y, 0, 1), back(2)), 0)
	liesKept(t, plain(call(row(0), x), callr(row(0), x, 0), call(row(1), x), callr(row(0), y, 2, 0, 1), back(0)), 0, 2)
	liesKept(t, plain(call(row(0), x), jump(3), back(1), call(row(1), x), jump(5), back(0)), 0)
	liesKept(t, plain(zero(1, 3), call(row(2), x), jump(3), back(0)), 0)
}

// N2 (c): calls in loops: what is read in the next turn, or behind the loop, is live across them.
func TestCallsInLoops(t *testing.T) {
	x, y := function(whole), function(whole, whole)
	liesKept(t, plain(zero(0, 5), put(1), call(row(2), x), sum(0, 0, 2), jump(0), back(3)), 0, 1, 3)
	liesKept(t, plain(put(0), callr(row(2), y, 3, 2), zero(2, 0), back(2)), 0, 3)
	liesKept(t, plain(call(row(0), y, 1), zero(0, 0), back(0)), 1)
	liesKept(t, plain(constant(1), call(row(0), y, 2), duplicate(2, 0), zero(2, 1), back(1)), 1)
	// Each call's result is the next one's argument, so that nothing is live across them.
	lies(t, plain(call(row(0), y, 0), jump(0)))
	// All of a loop is in use across its call.
	some := from(0, 9)
	code := append(all(some...), call(row(9), x), zero(9, 0))
	liesKept(t, plain(append(code, back(9))...), some...)
}

// N2 (c): what a call reads, and is not read behind it, or what it writes, is not asked to be kept; all of it lies apart.
func TestCallsOfMany(t *testing.T) {
	x := function(wide, wide)
	b := body(function(wide), 30, append(constants(from(0, 24)...), call(from(12, 12), x, from(0, 12)...), call(from(12, 12), x, from(12, 12)...), back(from(12, 12)...))...)
	liesApart(t, b, from(0, 12), from(12, 12))
	b.Code[25] = call(from(0, 12), x, from(12, 12)...)
	liesApart(t, b, from(0, 12), from(12, 12))
	b.Code[26] = back(append(from(0, 6), from(12, 6)...)...)
	liesKept(t, b, from(12, 6)...)
}

// What is not asked to lie apart lies together, so that frames are small: registers that are in use one behind the other have no place of the frame, nor have up to twelve at once, or up to eight across calls; what an order reads for the last time may make room for what it writes.
func TestNoPlaceOfTheFrame(t *testing.T) {
	var code []api.Three
	for first := 0; first < 300; first += 3 {
		code = append(code, append(constants(from(first, 3)...), all(from(first, 3)...)...)...)
	}
	twelve := slices.Clip(constants(from(0, 12)...))
	for _, b := range []api.Body{
		body(function(whole), 300, append(code, jump(0))...),
		body(function(whole), 300, jump(0)),
		body(function(whole), 12, append(append(twelve, all(from(0, 12)...)...), jump(0))...),
		body(function(whole), 13, append(append(twelve, sum(12, 0, 1)), append(all(from(1, 12)...), jump(0))...)...),
		body(function(whole), 13, append(twelve, call(row(12), function(whole, wide), from(0, 12)...), back(12))...),
		body(function(wide), 24, append(twelve, call(from(12, 12), function(wide, wide), from(0, 12)...), back(from(12, 12)...))...),
		body(function(whole), 9, append(append(constants(from(0, 8)...), call(row(8), function(whole))), append(all(from(0, 8)...), jump(0))...)...),
	} {
		if l := lies(t, b); slices.ContainsFunc(l, func(x api.Loc) bool { return x.Stack }) {
			t.Error(text(b), told(l))
		}
	}
}

// What costs least lies in the frame: of more registers than there is room for, the ones that are named most often lie in the machine's.
func TestMostNamed(t *testing.T) {
	some := from(0, 14)
	for first := range 14 {
		often := row(first, (first+5)%14)
		code := append(append(constants(some...), all(some...)...), append(all(often...), jump(0))...)
		l := lies(t, body(function(whole), 14, code...))
		if inFrame(l) != 2 || l[often[0]].Stack || l[often[1]].Stack {
			t.Error(often, told(l))
		}
	}
}
