package moves_test

import (
	"math"
	"slices"
	"testing"

	"scarfjoint/api"
	"scarfjoint/moves"
)

// apart gives so many moves from registers to places of the stack, of which nothing is wrong up to 100.
func apart(n int) []api.Move {
	var l []api.Move
	for at := range n {
		l = append(l, api.Move{From: api.Loc{N: at % 12}, To: api.Loc{Stack: true, N: at % 1000}})
	}
	return l
}

// checkWrong asks for an error, and that all else is zero (P2); or for a row, where it is OK.
func checkWrong(t *testing.T, l []api.Move, tmp int, want api.Errno) {
	t.Helper()
	if want == api.OK {
		checkRow(t, l, tmp)
		return
	}
	row, e := moves.Row(l, tmp)
	if e != want || len(row) != 0 {
		t.Errorf("%d moves, the last ones %s, tmp %d: %d, not %d; %s", len(l), shown(l[max(0, len(l)-3):]), tmp, e, want, shown(row))
	}
}

// J2: 100 moves, and 101; P1: a great many.
func TestHowMany(t *testing.T) {
	for n, want := range map[int]api.Errno{0: api.OK, 1: api.OK, 99: api.OK, 100: api.OK, 101: api.ErrSize, 102: api.ErrSize, 200: api.ErrSize, 356: api.ErrSize, 1 << 20: api.ErrSize} {
		checkWrong(t, apart(n), 12, want)
	}
	for n, want := range map[int]api.Errno{100: api.OK, 101: api.ErrSize} {
		var same []api.Move
		for _, p := range stack(0, n) {
			same = append(same, api.Move{From: p, To: p})
		}
		checkWrong(t, same, 12, want)
	}
}

// J1, J2: which places there are, as From and as To, alone, and first or last of many.
func TestPlaces(t *testing.T) {
	for _, stacked := range []bool{false, true} {
		most := map[bool]int{false: 15, true: 999}[stacked]
		for _, n := range []int{math.MinInt, math.MinInt32, -1000, -16, -1, 0, 1, 13, 14, 15, 16, 17, 31, 32, 255, 256, 998, 999, 1000, 1001, 1 << 16, 1 << 32, 1<<32 + 1, math.MaxInt} {
			want := api.OK
			if n < 0 || n > most {
				want = api.ErrRange
			}
			p, other := api.Loc{Stack: stacked, N: n}, api.Loc{Stack: true, N: 500}
			for _, m := range []api.Move{{From: p, To: other}, {From: other, To: p}, {From: p, To: p}} {
				checkWrong(t, []api.Move{m}, 12, want)
				if m.To.Stack && m.To.N >= 0 && m.To.N < 99 {
					continue
				}
				checkWrong(t, append(apart(99), m), 12, want)
				checkWrong(t, append([]api.Move{m}, apart(99)...), 12, want)
			}
		}
	}
}

// J2: which registers tmp may be, also where there is no move at all.
func TestTmp(t *testing.T) {
	for _, tmp := range []int{math.MinInt, -1000, -16, -1, 16, 17, 32, 255, 999, 1000, 1 << 32, math.MaxInt} {
		for _, l := range [][]api.Move{nil, list("s0>s1"), list("s0>s1 s1>s0"), list("r0>r0"), apart(100)} {
			checkWrong(t, l, tmp, api.ErrRange)
		}
	}
	for tmp := range 16 {
		for _, l := range [][]api.Move{nil, list("s0>s1"), list("s0>s1 s1>s0"), circle(stack(0, 100)...)} {
			checkWrong(t, l, tmp, api.OK)
		}
	}
}

// J2: the same To twice; a register and a stack place of the same number are not the same.
func TestSameTo(t *testing.T) {
	for _, text := range []string{
		"r1>r2 r3>r2", "r1>r2 r1>r2", "r1>r2 r2>r2", "r2>r2 r1>r2", "r2>r2 r2>r2", "s1>r2 r1>r2", "r0>r0 r1>r0", "r1>r15 s1>r15",
		"r1>s2 r3>s2", "s1>s2 s1>s2", "s1>s2 s2>s2", "s2>s2 s1>s2", "r2>s2 s2>s2", "s1>s0 s2>s0", "s1>s999 r1>s999",
		"r1>r2 r2>r3 r3>r1 s1>r2", "r1>s2 r1>r2 s2>r1 r3>r2", "r1>r2 r2>s1 r3>s2 r4>s1",
	} {
		l := list(text)
		checkWrong(t, l, 12, api.ErrTwice)
		slices.Reverse(l)
		checkWrong(t, l, 12, api.ErrTwice)
	}
	checkWrong(t, append(apart(99), list("r1>s0")...), 12, api.ErrTwice)
	for _, text := range []string{"r1>r2 r1>s2", "s2>r0 r2>s0", "r1>r15 r1>s15", "r2>s2 s2>r2", "r2>r2 s2>s2", "r1>r2 r1>r3", "s1>s2 s1>s3"} {
		checkWrong(t, list(text), 12, api.OK)
	}
}

// J2: the register tmp as a From, as a To, and as both; a stack place of its number is not it.
func TestTakesTmp(t *testing.T) {
	other, far := place("s500"), place("s600")
	for n := range 16 {
		tmp, same := api.Loc{N: n}, api.Loc{Stack: true, N: n}
		for _, m := range []api.Move{{From: tmp, To: other}, {From: other, To: tmp}, {From: tmp, To: tmp}, {From: tmp, To: same}, {From: same, To: tmp}} {
			checkWrong(t, []api.Move{m}, n, api.ErrKind)
			checkWrong(t, []api.Move{m, {From: other, To: far}}, n, api.ErrKind)
			checkWrong(t, []api.Move{{From: other, To: far}, m}, n, api.ErrKind)
			checkWrong(t, []api.Move{m}, (n+1)%16, api.OK)
		}
		for _, l := range [][]api.Move{{{From: same, To: other}}, {{From: other, To: same}}, {{From: same, To: same}}, circle(same, other), circle(other, far, same)} {
			checkWrong(t, l, n, api.OK)
		}
	}
}

// J2, P2: where two things are wrong at once, the one that is named first is told, wherever each of them stands.
func TestWrongAtOnce(t *testing.T) {
	twice, kind := list("r1>r2 r3>r2"), list("r12>r3")
	from, to := list("r16>r1"), list("r1>s1000")
	for _, c := range []struct {
		l    []api.Move
		tmp  int
		want api.Errno
	}{
		{slices.Concat(apart(100), from), 12, api.ErrSize},
		{slices.Concat(to, apart(100)), 12, api.ErrSize},
		{apart(101), 16, api.ErrSize},
		{apart(101), -1, api.ErrSize},
		{slices.Concat(twice, apart(99)), 12, api.ErrSize},
		{slices.Concat(kind, apart(100)), 12, api.ErrSize},
		{apart(101), 0, api.ErrSize},
		{slices.Concat(twice, from), 12, api.ErrRange},
		{slices.Concat(from, twice), 12, api.ErrRange},
		{slices.Concat(twice, to), 12, api.ErrRange},
		{slices.Concat(to, to), 12, api.ErrRange},
		{slices.Concat(from, from), 12, api.ErrRange},
		{twice, 16, api.ErrRange},
		{twice, -1, api.ErrRange},
		{slices.Concat(kind, from), 12, api.ErrRange},
		{slices.Concat(kind, to), 12, api.ErrRange},
		{slices.Concat(to, kind), 12, api.ErrRange},
		{list("r12>r16"), 12, api.ErrRange},
		{list("s1000>r12"), 12, api.ErrRange},
		{list("r16>r1"), 16, api.ErrRange},
		{list("r1>r16"), 16, api.ErrRange},
		{list("r-1>r1"), -1, api.ErrRange},
		{list("r1>r2 r1>r-1"), -1, api.ErrRange},
		{slices.Concat(kind, twice), 12, api.ErrTwice},
		{slices.Concat(twice, kind), 12, api.ErrTwice},
		{twice, 1, api.ErrTwice},
		{twice, 2, api.ErrTwice},
		{twice, 3, api.ErrTwice},
		{list("r12>r12 r12>r12"), 12, api.ErrTwice},
		{slices.Concat(kind, twice, from), 12, api.ErrRange},
		{slices.Concat(kind, twice, from, apart(99)), 16, api.ErrSize},
	} {
		checkWrong(t, c.l, c.tmp, c.want)
	}
}
