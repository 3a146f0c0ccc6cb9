package moves_test

import (
	"fmt"
	"slices"
	"strconv"
	"strings"
	"testing"

	"scarfjoint/api"
	"scarfjoint/moves"
)

// place reads one that is written as r and a register's number, or as s and that of a place of the stack.
func place(text string) api.Loc {
	n, err := strconv.Atoi(text[1:])
	if err != nil || text[0] != 'r' && text[0] != 's' {
		panic("no place: " + text)
	}
	return api.Loc{Stack: text[0] == 's', N: n}
}

// list reads moves that are written as "r0>r1 s3>r0".
func list(text string) []api.Move {
	var l []api.Move
	for _, word := range strings.Fields(text) {
		from, to, _ := strings.Cut(word, ">")
		l = append(l, api.Move{From: place(from), To: place(to)})
	}
	return l
}

// shown writes moves as list reads them.
func shown(l []api.Move) string {
	letter := map[bool]string{false: "r", true: "s"}
	var words []string
	for _, m := range l {
		words = append(words, fmt.Sprintf("%s%d>%s%d", letter[m.From.Stack], m.From.N, letter[m.To.Stack], m.To.N))
	}
	return strings.Join(words, " ")
}

// circle gives moves from each place to the next one, and from the last one to the first one.
func circle(places ...api.Loc) []api.Move {
	l := chain(places...)
	return append(l, api.Move{From: places[len(places)-1], To: places[0]})
}

// chain gives moves from each place to the next one.
func chain(places ...api.Loc) []api.Move {
	var l []api.Move
	for at := range len(places) - 1 {
		l = append(l, api.Move{From: places[at], To: places[at+1]})
	}
	return l
}

// registers gives those from one on, below another one.
func registers(from, below int) []api.Loc {
	var l []api.Loc
	for n := from; n < below; n++ {
		l = append(l, api.Loc{N: n})
	}
	return l
}

// stack gives the places of the stack from one on, below another one.
func stack(from, below int) []api.Loc {
	l := registers(from, below)
	for at := range l {
		l[at].Stack = true
	}
	return l
}

// world is what is at all places: the registers, and behind them those of the stack.
type world [16 + 1000]int

func (w *world) at(p api.Loc) *int {
	if p.Stack {
		return &w[16:][p.N]
	}
	return &w[:16][p.N]
}

// begun gives a world that has another number at each place, so that what comes tells where it was.
func begun() *world {
	var w world
	for at := range w {
		w[at] = 5000 + at
	}
	return &w
}

// oneByOne does moves as J1 says it of a row.
func oneByOne(l []api.Move) *world {
	w := begun()
	for _, m := range l {
		*w.at(m.To) = *w.at(m.From)
	}
	return w
}

// atOnce does moves as J1 says it of those done at once.
func atOnce(l []api.Move) *world {
	ahead, w := begun(), begun()
	for _, m := range l {
		*w.at(m.To) = *ahead.at(m.From)
	}
	return w
}

// checkRow asks for all that J2 says of a row.
func checkRow(t *testing.T, l []api.Move, tmp int) {
	t.Helper()
	row, e := moves.Row(l, tmp)
	if e != api.OK {
		t.Fatalf("%s, tmp %d: error %d", shown(l), tmp, e)
	}
	for _, m := range row {
		for _, p := range []api.Loc{m.From, m.To} {
			if p.N < 0 || p.Stack && p.N > 999 || !p.Stack && p.N > 15 {
				t.Fatalf("%s, tmp %d: %s has no place %v", shown(l), tmp, shown(row), p)
			}
		}
	}
	got, want := oneByOne(row), atOnce(l)
	got[tmp], want[tmp] = 0, 0
	if *got != *want {
		t.Fatalf("%s, tmp %d: %s leaves something else", shown(l), tmp, shown(row))
	}
	if len(row) > len(l)+len(l)/2 {
		t.Fatalf("%s, tmp %d: %s has %d moves, of %d", shown(l), tmp, shown(row), len(row), len(l))
	}
}

// J1: what is at From stays there; one by one is not at once. (It holds the tests' own means.)
func TestDone(t *testing.T) {
	l := list("r0>r1 r1>s1 s1>r2")
	one, all := oneByOne(l), atOnce(l)
	for at, want := range []struct{ one, all int }{{5000, 5000}, {5000, 5000}, {5000, 5017}, {5003, 5003}} {
		if one[at] != want.one || all[at] != want.all {
			t.Error(at, one[at], all[at])
		}
	}
	if one[17] != 5000 || all[17] != 5001 || one[16] != 5016 || all[16] != 5016 {
		t.Error(one[16:18], all[16:18])
	}
}

// J2: the example of the chapter.
func TestExample(t *testing.T) {
	l := list("r0>r1 r1>r0")
	row, e := moves.Row(l, 12)
	if e != api.OK || len(row) != 3 {
		t.Fatal(shown(row), e)
	}
	checkRow(t, l, 12)
	w := oneByOne(row)
	if w[0] != 5001 || w[1] != 5000 || w[2] != 5002 || w[11] != 5011 || w[13] != 5013 {
		t.Error(shown(row), w[:16])
	}
}

// J2: rows by hand, each as it is written and from behind, with several registers as tmp.
func TestByHand(t *testing.T) {
	for _, text := range []string{
		"",
		"r1>r2", "r1>s2", "s1>r2", "s1>s2", "r1>s1", "s1>r1", "s0>s999", "s999>s0", "r1>r14", "s0>r14", "s15>s12",
		"r1>r1", "s1>s1", "r1>r1 s1>s1", "r1>r1 r1>r2", "r2>r1 r2>r2", "r1>r1 r2>r3 r3>r2", "r1>r2 r2>r1 s0>s0 s999>s999",
		"r1>r2 r2>r3", "r1>s1 s1>r2 r2>s2", "s1>s2 s2>s3 s3>s4 s4>s5", "r1>r2 r3>r4 r2>r3 r4>r5",
		"r1>r2 r1>r3 r1>r4", "s7>r1 s7>s1 s7>r7 s7>s7", "r1>r2 r1>r3 r2>r4 r2>r5 r3>r6 r3>r7", "r1>s0 r1>r3 s0>r4 s0>s999",
		"r1>r2 r2>r1", "s1>s2 s2>s1", "r1>s1 s1>r1", "s0>s999 s999>s0",
		"r1>r2 r2>r3 r3>r1", "r3>r2 r2>r1 r1>r3", "s1>s2 s2>s3 s3>s1", "r1>s1 s1>r2 r2>r1", "r2>s2 s2>s1 s1>r1 r1>r2",
		"r1>r2 r2>r1 r3>r4 r4>r3", "r1>r2 s1>s2 r2>r1 s2>s1", "r1>s1 r2>s2 s1>r1 s2>r2", "r1>r2 r2>r3 r3>r1 s1>s2 s2>s1 r4>s4 s4>r4",
		"r1>r2 r2>r1 r1>r3", "r1>r2 r2>r1 r1>r3 r3>r4", "r3>r4 r1>r3 r2>r1 r1>r2", "r1>r2 r2>r1 r1>s1 r2>s2 s2>s3 s1>s4",
		"s1>r1 r1>s2 s2>s1 r1>r2 r1>r3 s2>r4 r4>r5 s1>s999", "r1>r2 r2>r3 r3>r1 r1>s1 r2>s2 r3>s3 s1>s4",
	} {
		l := list(text)
		back := slices.Clone(l)
		slices.Reverse(back)
		for _, tmp := range []int{0, 12, 15} {
			checkRow(t, l, tmp)
			checkRow(t, back, tmp)
		}
	}
}

// J2: no move at all, and moves from a place to itself alone, leave all as it was, in a row of at most half as many moves more.
func TestNothingComes(t *testing.T) {
	for _, tmp := range []int{0, 1, 14, 15} {
		for _, l := range [][]api.Move{nil, {}} {
			if row, e := moves.Row(l, tmp); e != api.OK || len(row) != 0 {
				t.Error(tmp, shown(row), e)
			}
		}
	}
	var l []api.Move
	for _, p := range slices.Concat(registers(0, 15), stack(0, 80), stack(995, 1000)) {
		l = append(l, api.Move{From: p, To: p})
		checkRow(t, []api.Move{{From: p, To: p}}, 15)
	}
	if len(l) != 100 {
		t.Fatal(len(l))
	}
	checkRow(t, l, 15)
}

// orders gives all orders of a list.
func orders(l []api.Move) [][]api.Move {
	if len(l) == 0 {
		return [][]api.Move{nil}
	}
	var all [][]api.Move
	for at := range l {
		rest := slices.Concat(l[:at], l[at+1:])
		for _, order := range orders(rest) {
			all = append(all, append(order, l[at]))
		}
	}
	return all
}

// J2: chains, circles, and circles with chains that hang on them, in each order.
func TestEachOrder(t *testing.T) {
	mixed := []api.Loc{place("r3"), place("s3"), place("s0"), place("r0"), place("s999"), place("r15")}
	for _, l := range [][]api.Move{
		chain(registers(0, 6)...), chain(stack(995, 1000)...), chain(mixed...),
		circle(registers(10, 12)...), circle(registers(13, 16)...), circle(stack(0, 5)...), circle(mixed...),
		slices.Concat(circle(registers(0, 2)...), circle(stack(0, 2)...), circle(place("r5"), place("s5"))),
		slices.Concat(circle(registers(0, 3)...), chain(place("r0"), place("s0"), place("s1")), chain(place("r2"), place("s2"))),
		slices.Concat(circle(place("r1"), place("s1")), chain(place("r1"), place("r2"), place("r3")), chain(place("s1"), place("s2"), place("s3"))),
		list("r1>r2 r1>r3 r1>s1 r1>s2 r1>s3 r1>r1"), list("r1>r1 s1>r2 r2>s1 s1>s2 s2>s3 r3>r4"),
	} {
		all := orders(l)
		for _, order := range all {
			checkRow(t, order, 12)
		}
		if want := map[int]int{2: 2, 3: 6, 4: 24, 5: 120, 6: 720}[len(l)]; len(all) != want {
			t.Error(len(l), len(all))
		}
	}
}

// J2: circles of each length.
func TestLongCircles(t *testing.T) {
	for n := 2; n <= 100; n++ {
		checkRow(t, circle(stack(0, n)...), 0)
		checkRow(t, circle(stack(1000-n, 1000)...), 15)
		if n <= 15 {
			checkRow(t, circle(registers(0, n)...), 15)
			checkRow(t, circle(registers(16-n, 16)...), 0)
			checkRow(t, circle(slices.Concat(registers(16-n, 16), stack(0, n))...), 0)
		}
	}
}

// circlesOfTwo gives so many circles of two, of registers, of both, and of places of the stack, in this order.
func circlesOfTwo(n int) []api.Move {
	places := slices.Concat(registers(0, 15), stack(0, 1000))
	var l []api.Move
	for at := range n {
		l = append(l, circle(places[2*at], places[2*at+1])...)
	}
	return l
}

// J2: 100 moves in circles of two are at most 150 in a row; and so are fewer ones, and those with moves that are not of a circle.
func TestCirclesOfTwo(t *testing.T) {
	for n := range 51 {
		checkRow(t, circlesOfTwo(n), 15)
	}
	row, e := moves.Row(circlesOfTwo(50), 15)
	if e != api.OK || len(row) > 150 {
		t.Error(len(row), e)
	}
	for n := range 50 {
		odd := append(circlesOfTwo(n), api.Move{From: place("r0"), To: place("s999")})
		checkRow(t, odd, 15)
		checkRow(t, append(odd, api.Move{From: place("s998"), To: place("s998")}), 15)
	}
}

// J2: all moves among five places, each of which is the To of a move from any of them or of none, in three orders.
func TestAllOfFive(t *testing.T) {
	places := []api.Loc{place("r0"), place("r1"), place("s0"), place("s1"), place("s2")}
	for n := range 6 * 6 * 6 * 6 * 6 {
		var l []api.Move
		for _, to := range places {
			if n%6 < 5 {
				l = append(l, api.Move{From: places[n%6], To: to})
			}
			n /= 6
		}
		checkRow(t, l, 2)
		if len(l) > 2 {
			checkRow(t, slices.Concat(l[2:], l[:2]), 2)
		}
		slices.Reverse(l)
		checkRow(t, l, 2)
	}
}
