package moves_test

import (
	"slices"
	"testing"

	"scarfjoint/api"
	"scarfjoint/moves"
)

// drawer draws numbers: the same ones each time.
type drawer uint64

func (d *drawer) below(n int) int {
	*d ^= *d << 13
	*d ^= *d >> 7
	*d ^= *d << 17
	return int(uint64(*d) >> 11 % uint64(n))
}

// mix gives a list in a drawn order.
func mix[T any](d *drawer, l []T) []T {
	l = slices.Clone(l)
	for at := range l {
		other := at + d.below(len(l)-at)
		l[at], l[other] = l[other], l[at]
	}
	return l
}

// places draws so many of all places but the register tmp, from a few ones or from many.
func (d *drawer) places(n, tmp int) []api.Loc {
	all := slices.Concat(registers(0, tmp), registers(tmp+1, 16), stack(0, max(n, 8)))
	if d.below(2) == 0 {
		all = append(all, stack(900, 1000)...)
	}
	return mix(d, all)[:n]
}

// moves draws moves of which nothing is wrong.
func (d *drawer) moves(tmp int) []api.Move {
	to := d.places(d.below([]int{4, 8, 16, 101}[d.below(4)]), tmp)
	from := d.sources(to, tmp)
	var l []api.Move
	for at := range to {
		l = append(l, api.Move{From: from[at], To: to[at]})
	}
	return mix(d, l)
}

// sources draws where it comes from: one From of each To, some of them elsewhere, a few ones for all, or circles of two or three.
func (d *drawer) sources(to []api.Loc, tmp int) []api.Loc {
	from := mix(d, to)
	switch d.below(4) {
	case 1:
		for at := range from {
			if d.below(4) == 0 {
				from[at] = d.places(1, tmp)[0]
			}
		}
	case 2:
		few := 1 + d.below(len(to)+1)
		for at := range from {
			from[at] = to[d.below(min(few, len(to)))]
		}
	case 3:
		from = nil
		for part := range slices.Chunk(to, 2+d.below(2)) {
			from = slices.Concat(from, part[1:], part[:1])
		}
	}
	return from
}

// J2: drawn moves.
func TestDrawnMoves(t *testing.T) {
	d := drawer(0x9e3779b97f4a7c15)
	seen := map[int]int{}
	for range 30000 {
		tmp := d.below(16)
		l := d.moves(tmp)
		checkRow(t, l, tmp)
		seen[min(circles(l), 10)]++
	}
	for n := range 11 {
		if seen[n] < 20 {
			t.Error("too few of so many circles:", n, seen)
		}
	}
}

// circles counts those of two or more places.
func circles(l []api.Move) int {
	comes := map[api.Loc]api.Loc{}
	for _, m := range l {
		comes[m.To] = m.From
	}
	n := 0
	done := map[api.Loc]int{}
	for at, m := range l {
		p := m.To
		for done[p] == 0 {
			done[p] = at + 1
			if from, ok := comes[p]; ok {
				p = from
			}
		}
		if from, ok := comes[p]; ok && done[p] == at+1 && from != p {
			n++
		}
	}
	return n
}

// spoilt draws moves, of which things are wrong now and then.
func (d *drawer) spoilt() ([]api.Move, int) {
	tmp := d.below(16)
	l := d.moves(tmp)
	for range d.below(3) {
		if len(l) == 0 {
			break
		}
		m, other := &l[d.below(len(l))], l[d.below(len(l))]
		switch d.below(7) {
		case 0:
			tmp = []int{-1, 16, 0, 15, 999}[d.below(5)]
		case 1:
			m.From.N = []int{-1, 15, 16, 999, 1000}[d.below(5)]
		case 2:
			m.To.N = []int{-1, 15, 16, 999, 1000}[d.below(5)]
		case 3:
			m.To = other.To
		case 4:
			m.From = api.Loc{N: tmp}
		case 5:
			m.To.N = tmp
		case 6:
			l = append(l, apart(d.below(120))...)
		}
	}
	return l, tmp
}

// told says what is wrong, by the chapter's own words once more.
func told(l []api.Move, tmp int) api.Errno {
	if len(l) > 100 {
		return api.ErrSize
	}
	all := slices.Concat(registers(0, 16), stack(0, 1000))
	bad := !slices.Contains(all[:16], api.Loc{N: tmp})
	twice, takes := false, false
	for at, m := range l {
		bad = bad || !slices.Contains(all, m.From) || !slices.Contains(all, m.To)
		takes = takes || slices.Contains([]api.Loc{m.From, m.To}, api.Loc{N: tmp})
		for _, other := range l[:at] {
			twice = twice || other.To == m.To
		}
	}
	switch {
	case bad:
		return api.ErrRange
	case twice:
		return api.ErrTwice
	case takes:
		return api.ErrKind
	}
	return api.OK
}

// J2, P2: drawn moves of which things are wrong, against the chapter written once more.
func TestDrawnWrong(t *testing.T) {
	d := drawer(0x2545f4914f6cdd1d)
	seen := map[api.Errno]int{}
	for range 10000 {
		l, tmp := d.spoilt()
		want := told(l, tmp)
		seen[want]++
		checkWrong(t, l, tmp, want)
	}
	for _, e := range []api.Errno{api.OK, api.ErrSize, api.ErrRange, api.ErrTwice, api.ErrKind} {
		if seen[e] < 200 {
			t.Error("too few of one sort:", seen)
		}
	}
}

// P3: what is told hangs on the arguments alone.
func TestToldAgain(t *testing.T) {
	d := drawer(0x853c49e6748fea9b)
	for range 2000 {
		l, tmp := d.spoilt()
		a, e := moves.Row(l, tmp)
		b, again := moves.Row(slices.Clone(l), tmp)
		if e != again || !slices.Equal(a, b) {
			t.Fatal(shown(l), tmp, e, again, shown(a), "then", shown(b))
		}
	}
}
