package word_test

import (
	"math"
	"math/big"
	"testing"

	"scarfjoint/api"
	"scarfjoint/word"
)

const (
	leastWord = math.MinInt32
	mostWord  = math.MaxInt32
	leastLong = math.MinInt64
	mostLong  = math.MaxInt64
)

// wordOps and wideOps say themselves what has an answer, so that an op too many is seen, too.
var (
	wordOps = []int{api.OpAdd, api.OpSub, api.OpMul, api.OpHigh, api.OpDiv, api.OpRem, api.OpAnd, api.OpOr, api.OpXor, api.OpLess, api.OpLow, api.OpSame}
	wideOps = []int{api.OpAdd, api.OpSub, api.OpMul, api.OpAnd, api.OpOr, api.OpXor, api.OpLess, api.OpSame}
	noOps   = []int{0, -1, -2, 13, 14, 15, 16, 255, 256, 256 + api.OpAdd, 1<<32 + api.OpAdd, math.MaxInt, math.MinInt}
)

var edgeWords = []int32{leastWord, leastWord + 1, -65537, -65536, -32769, -32768, -1000, -7, -3, -2, -1, 0, 1, 2, 3, 7, 1000, 32767, 32768, 65535, 65536, 0x55555555, mostWord - 1, mostWord}

var edgeLongs = []int64{leastLong, leastLong + 1, -1<<32 - 1, -1 << 32, leastWord - 1, leastWord, -7, -2, -1, 0, 1, 2, 7, mostWord, mostWord + 1, 1<<32 - 1, 1 << 32, 1<<32 + 1, 0x123456789abcdef0, 0x5555555555555555, mostLong - 1, mostLong}

// power is 2^bits.
func power(bits uint) *big.Int { return new(big.Int).Lsh(big.NewInt(1), bits) }

// bare is a number of so many bits without its sign.
func bare(n *big.Int, bits uint) *big.Int {
	if n.Sign() < 0 {
		return new(big.Int).Add(n, power(bits))
	}
	return n
}

// wrapped is what is left of a number in so many bits.
func wrapped(n *big.Int, bits uint) int64 {
	r := new(big.Int).Mod(n, power(bits))
	if r.Cmp(power(bits-1)) >= 0 {
		r.Sub(r, power(bits))
	}
	return r.Int64()
}

func asked(yes bool) *big.Int {
	if yes {
		return big.NewInt(1)
	}
	return new(big.Int)
}

// wanted works an answer out on whole numbers without end, which lose nothing on the way.
func wanted(op int, a, b int64, bits uint) (int64, bool) {
	x, y, z := big.NewInt(a), big.NewInt(b), new(big.Int)
	switch op {
	case api.OpAdd:
		z.Add(x, y)
	case api.OpSub:
		z.Sub(x, y)
	case api.OpMul:
		z.Mul(x, y)
	case api.OpHigh:
		z.Mul(bare(x, bits), bare(y, bits)).Rsh(z, bits)
	case api.OpDiv, api.OpRem:
		if b == 0 {
			return 0, false
		}
		rest := new(big.Int)
		if z.QuoRem(x, y, rest); op == api.OpRem {
			z = rest
		}
	case api.OpAnd:
		z.And(x, y)
	case api.OpOr:
		z.Or(x, y)
	case api.OpXor:
		z.Xor(x, y)
	case api.OpLess:
		z = asked(x.Cmp(y) < 0)
	case api.OpLow:
		z = asked(bare(x, bits).Cmp(bare(y, bits)) < 0)
	case api.OpSame:
		z = asked(x.Cmp(y) == 0)
	}
	return wrapped(z, bits), true
}

// drawn are numbers without a pattern, the same ones each time.
func drawn(count int) []uint64 {
	l, s := make([]uint64, count), uint64(88172645463325252)
	for i := range l {
		s ^= s << 13
		s ^= s >> 7
		s ^= s << 17
		l[i] = s
	}
	return l
}

func checkOp(t *testing.T, op int, a, b int32) {
	t.Helper()
	n, ok := word.Op(op, a, b)
	if want, wantOK := wanted(op, int64(a), int64(b), 32); int64(n) != want || ok != wantOK {
		t.Fatalf("Op(%d, %d, %d): %d %v, not %d %v", op, a, b, n, ok, want, wantOK)
	}
}

func checkWide(t *testing.T, op int, a, b int64) {
	t.Helper()
	n, ok := word.Wide(op, a, b)
	if want, wantOK := wanted(op, a, b, 64); n != want || ok != wantOK {
		t.Fatalf("Wide(%d, %d, %d): %d %v, not %d %v", op, a, b, n, ok, want, wantOK)
	}
}

// A1: answers written out by hand, the chapter's edges among them.
func TestOpByHand(t *testing.T) {
	for _, c := range []struct {
		name       string
		op         int
		a, b, want int32
		ok         bool
	}{
		{"sum", api.OpAdd, 2, 3, 5, true},
		{"sum beyond the bits", api.OpAdd, mostWord, 1, leastWord, true},
		{"sum below the bits", api.OpAdd, leastWord, -1, mostWord, true},
		{"difference", api.OpSub, 2, 3, -1, true},
		{"difference below the bits", api.OpSub, leastWord, 1, mostWord, true},
		{"difference of the least", api.OpSub, 0, leastWord, leastWord, true},
		{"product", api.OpMul, -4, 5, -20, true},
		{"product beyond the bits", api.OpMul, 65536, 65536, 0, true},
		{"product of the greatest", api.OpMul, mostWord, mostWord, 1, true},
		{"product of the least", api.OpMul, leastWord, -1, leastWord, true},
		{"upper bits of a small product", api.OpHigh, 5, 7, 0, true},
		{"upper bits", api.OpHigh, 65536, 65536, 1, true},
		{"upper bits without signs", api.OpHigh, -1, -1, -2, true},
		{"upper bits, one without its sign", api.OpHigh, -1, 2, 1, true},
		{"upper bits, the other without its sign", api.OpHigh, 3, -1, 2, true},
		{"upper bits of the least", api.OpHigh, leastWord, leastWord, 1 << 30, true},
		{"quotient", api.OpDiv, 7, 2, 3, true},
		{"quotient towards 0", api.OpDiv, -7, 2, -3, true},
		{"quotient by one below 0", api.OpDiv, 7, -2, -3, true},
		{"quotient of two below 0", api.OpDiv, -7, -2, 3, true},
		{"quotient by 0", api.OpDiv, 7, 0, 0, false},
		{"quotient of 0 by 0", api.OpDiv, 0, 0, 0, false},
		{"quotient of the least by 0", api.OpDiv, leastWord, 0, 0, false},
		{"quotient of the least by -1", api.OpDiv, leastWord, -1, leastWord, true},
		{"quotient of the least by 1", api.OpDiv, leastWord, 1, leastWord, true},
		{"rest", api.OpRem, 7, 2, 1, true},
		{"rest of one below 0", api.OpRem, -7, 2, -1, true},
		{"rest by one below 0", api.OpRem, 7, -2, 1, true},
		{"rest of two below 0", api.OpRem, -7, -2, -1, true},
		{"rest by 0", api.OpRem, 5, 0, 0, false},
		{"rest of 0 by 0", api.OpRem, 0, 0, 0, false},
		{"rest of the least by -1", api.OpRem, leastWord, -1, 0, true},
		{"and", api.OpAnd, 12, 10, 8, true},
		{"and of one below 0", api.OpAnd, -1, leastWord, leastWord, true},
		{"or", api.OpOr, 12, 10, 14, true},
		{"or of the ends", api.OpOr, leastWord, mostWord, -1, true},
		{"xor", api.OpXor, 12, 10, 6, true},
		{"xor of one below 0", api.OpXor, -1, mostWord, leastWord, true},
		{"less", api.OpLess, 1, 2, 1, true},
		{"less, of the same", api.OpLess, 2, 2, 0, true},
		{"less, with signs", api.OpLess, -1, 0, 1, true},
		{"less, the ends", api.OpLess, mostWord, leastWord, 0, true},
		{"low", api.OpLow, 1, 2, 1, true},
		{"low, of the same", api.OpLow, -1, -1, 0, true},
		{"low, without signs", api.OpLow, -1, 0, 0, true},
		{"low, the ends", api.OpLow, mostWord, leastWord, 1, true},
		{"same", api.OpSame, -3, -3, 1, true},
		{"not the same", api.OpSame, 3, -3, 0, true},
	} {
		if n, ok := word.Op(c.op, c.a, c.b); n != c.want || ok != c.ok {
			t.Errorf("%s: Op(%d, %d, %d): %d %v, not %d %v", c.name, c.op, c.a, c.b, n, ok, c.want, c.ok)
		}
	}
}

// A1: every op, of all pairs of edges and of drawn words, against whole numbers without end.
func TestOpAgainstWholeNumbers(t *testing.T) {
	for _, op := range wordOps {
		for _, a := range edgeWords {
			for _, b := range edgeWords {
				checkOp(t, op, a, b)
			}
		}
		for _, n := range drawn(2000) {
			checkOp(t, op, int32(n), int32(n>>32))
			checkOp(t, op, int32(n), int32(n>>32)>>(n%31))
		}
	}
}

// A1: 0 and false of ops that are none, also where only their lower bits are one's.
func TestOpOfNoOp(t *testing.T) {
	for _, op := range noOps {
		for _, a := range edgeWords {
			for _, b := range edgeWords {
				if n, ok := word.Op(op, a, b); n != 0 || ok {
					t.Fatalf("Op(%d, %d, %d): %d %v", op, a, b, n, ok)
				}
			}
		}
	}
}

// A2: answers written out by hand.
func TestWideByHand(t *testing.T) {
	for _, c := range []struct {
		name       string
		op         int
		a, b, want int64
	}{
		{"sum over the middle", api.OpAdd, 1<<32 - 1, 1, 1 << 32},
		{"sum beyond the bits", api.OpAdd, mostLong, 1, leastLong},
		{"sum below the bits", api.OpAdd, leastLong, -1, mostLong},
		{"difference over the middle", api.OpSub, 1 << 32, 1, 1<<32 - 1},
		{"difference below the bits", api.OpSub, leastLong, 1, mostLong},
		{"product over the middle", api.OpMul, 1 << 20, -1 << 20, -1 << 40},
		{"product beyond the bits", api.OpMul, 1 << 32, 1 << 32, 0},
		{"product of the least", api.OpMul, leastLong, -1, leastLong},
		{"and", api.OpAnd, -1 << 32, 0x123456789, 1 << 32},
		{"or", api.OpOr, 1 << 40, 1, 1<<40 + 1},
		{"xor", api.OpXor, -1, mostLong, leastLong},
		{"less", api.OpLess, -1, 0, 1},
		{"less, told by the upper bits", api.OpLess, 1, 1 << 32, 1},
		{"less, of the same", api.OpLess, 5, 5, 0},
		{"less, the ends", api.OpLess, mostLong, leastLong, 0},
		{"same", api.OpSame, leastLong, leastLong, 1},
		{"same in the lower bits alone", api.OpSame, 1<<32 + 5, 5, 0},
	} {
		if n, ok := word.Wide(c.op, c.a, c.b); n != c.want || !ok {
			t.Errorf("%s: Wide(%d, %d, %d): %d %v, not %d true", c.name, c.op, c.a, c.b, n, ok, c.want)
		}
	}
}

// A2: every op, of all pairs of edges and of drawn longs, against whole numbers without end.
func TestWideAgainstWholeNumbers(t *testing.T) {
	l := drawn(2001)
	for _, op := range wideOps {
		for _, a := range edgeLongs {
			for _, b := range edgeLongs {
				checkWide(t, op, a, b)
			}
		}
		for i, n := range l[1:] {
			checkWide(t, op, int64(n), int64(l[i]))
			checkWide(t, op, int64(n), int64(l[i])>>(n%63))
		}
	}
}

// A2: 0 and false of ops that are none, and of those that words alone have.
func TestWideOfNoOp(t *testing.T) {
	for _, op := range append([]int{api.OpHigh, api.OpDiv, api.OpRem, api.OpLow}, noOps...) {
		for _, a := range edgeLongs {
			for _, b := range edgeLongs {
				if n, ok := word.Wide(op, a, b); n != 0 || ok {
					t.Fatalf("Wide(%d, %d, %d): %d %v", op, a, b, n, ok)
				}
			}
		}
	}
}

// A3: halves written out by hand, each way.
func TestHalvesByHand(t *testing.T) {
	for _, c := range []struct {
		n         int64
		low, high int32
	}{
		{0, 0, 0},
		{1, 1, 0},
		{-1, -1, -1},
		{-2, -2, -1},
		{1 << 32, 0, 1},
		{-1 << 32, 0, -1},
		{1<<32 - 1, -1, 0},
		{mostWord, mostWord, 0},
		{mostWord + 1, leastWord, 0},
		{leastWord, leastWord, -1},
		{leastWord - 1, mostWord, -1},
		{mostLong, -1, mostWord},
		{leastLong, 0, leastWord},
		{0x0000000200000003, 3, 2},
	} {
		if low, high := word.Split(c.n); low != c.low || high != c.high {
			t.Errorf("Split(%d): %d %d, not %d %d", c.n, low, high, c.low, c.high)
		}
		if n := word.Join(c.low, c.high); n != c.n {
			t.Errorf("Join(%d, %d): %d, not %d", c.low, c.high, n, c.n)
		}
	}
}

// A3: a long is its upper word times 2^32 and its lower word without its sign, whichever way one begins.
func TestHalvesAgainstWholeNumbers(t *testing.T) {
	longs := append([]int64{}, edgeLongs...)
	for _, n := range drawn(2000) {
		longs = append(longs, int64(n))
	}
	for _, n := range longs {
		low, high := word.Split(n)
		if whole(low, high).Cmp(big.NewInt(n)) != 0 {
			t.Fatalf("Split(%d): %d %d", n, low, high)
		}
		if word.Join(low, high) != n {
			t.Fatalf("Join(%d, %d): not %d", low, high, n)
		}
	}
	for _, low := range edgeWords {
		for _, high := range edgeWords {
			n := word.Join(low, high)
			if whole(low, high).Cmp(big.NewInt(n)) != 0 {
				t.Fatalf("Join(%d, %d): %d", low, high, n)
			}
			if l, h := word.Split(n); l != low || h != high {
				t.Fatalf("Split(%d): %d %d, not %d %d", n, l, h, low, high)
			}
		}
	}
}

func whole(low, high int32) *big.Int {
	n := new(big.Int).Mul(big.NewInt(int64(high)), power(32))
	return n.Add(n, bare(big.NewInt(int64(low)), 32))
}
