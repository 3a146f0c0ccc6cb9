// Package word has the arithmetic of words and longs: see doc/01-word.md.
package word

import "scarfjoint/api"

// signed are the two sizes of numbers: a word and a long.
type signed interface{ int32 | int64 }

// Op answers what an operation tells of two words, and whether it tells anything.
func Op(op int, a, b int32) (int32, bool) {
	// Without its sign a word needs one bit more than int32 has; in 64 bits the whole product of two has room, too.
	bare := func(n int32) uint64 { return uint64(uint32(n)) }
	switch op {
	case api.OpHigh:
		return int32(bare(a) * bare(b) >> 32), true
	case api.OpLow:
		return truth[int32](bare(a) < bare(b)), true
	case api.OpDiv, api.OpRem:
		return divide(op, a, b)
	}
	return common(op, a, b)
}

// Wide answers what an operation tells of two longs, and whether it tells anything.
func Wide(op int, a, b int64) (int64, bool) {
	return common(op, a, b)
}

// Split answers a long's lower and its upper word.
func Split(n int64) (int32, int32) {
	return int32(n), int32(n >> 32)
}

// Join answers the long of a lower and an upper word.
func Join(low, high int32) int64 {
	// The lower word goes without its sign, which would spill into the upper half.
	return int64(high)<<32 | int64(uint32(low))
}

// common does the operations that words and longs share.
func common[T signed](op int, a, b T) (T, bool) {
	switch op {
	case api.OpAdd:
		return a + b, true
	case api.OpSub:
		return a - b, true
	case api.OpMul:
		return a * b, true
	case api.OpAnd:
		return a & b, true
	case api.OpOr:
		return a | b, true
	case api.OpXor:
		return a ^ b, true
	case api.OpLess:
		return truth[T](a < b), true
	case api.OpSame:
		return truth[T](a == b), true
	}
	return 0, false
}

// divide does OpDiv and OpRem. The least word by -1 needs no case of its own: the language, too, answers the least word, and 0 left over.
func divide(op int, a, b int32) (int32, bool) {
	if b == 0 {
		return 0, false
	}
	if op == api.OpDiv {
		return a / b, true
	}
	return a % b, true
}

// truth is how a number says yes or no.
func truth[T signed](yes bool) T {
	if yes {
		return 1
	}
	return 0
}
