package tail_test

import (
	"slices"
	"testing"

	"scarfjoint/api"
)

// O1: the chapter's example.
func TestExample(t *testing.T) {
	x := function(whole, whole)
	tells(t, body(x, 1, call(row(0), x, 0), back(0)), 0)
}

// O1: the order behind the call is a TReturn: one to which a TJump leads is not behind it, nor is one behind another order.
func TestOrderBehind(t *testing.T) {
	x := function(whole, whole)
	for _, o := range calls(row(1), x, 0) {
		tells(t, plain(o, back(1)), 0)
		tells(t, plain(o, jump(2), back(1)))
		tells(t, plain(back(1), o, jump(0)))
		tells(t, plain(o, jump(0)))
		for _, behind := range []api.Three{
			constant(2), constant(1), duplicate(2, 1), duplicate(1, 1), sum(2, 1, 1), load(2), store(1), address(2), zero(1, 0), zero(2, 2), put(1), put(2),
		} {
			tells(t, plain(o, behind, back(1)))
			tells(t, plain(behind, o, back(1)), 1)
		}
	}
}

// O1: in bodies of any number their own orders stand between, too.
func TestOrderBehindOfAnyNumber(t *testing.T) {
	for _, o := range calls(row(1), function(whole, whole), 0) {
		for _, behind := range []api.Three{count(2), extra(2, 1), count(1), extra(1, 1)} {
			tells(t, body(many(function(whole)), 9, o, behind, back(1)))
			tells(t, body(many(function(whole)), 9, behind, o, back(1)), 1)
		}
	}
}

// O1: of two calls one behind the other the last one alone is at the tail, also if both write what is returned.
func TestCallBehind(t *testing.T) {
	x := function(whole, whole)
	for _, first := range calls(row(1), x, 0) {
		for _, last := range calls(row(1), x, 0) {
			tells(t, plain(first, last, back(1)), 1)
			last.D = row(2)
			tells(t, plain(first, last, back(2)), 1)
			tells(t, plain(first, last, back(1)))
		}
	}
}

// O1: the TReturn's S are the call's D, in order: the same ones, turned round, others, and one of them twice.
func TestSameRegisters(t *testing.T) {
	for _, o := range calls(row(3), function(whole, whole), 0) {
		for register := range 10 {
			b := plain(o, back(register))
			if register == 3 {
				tells(t, b, 0)
			} else {
				tells(t, b)
			}
		}
	}
	for _, o := range calls(row(3, 4), function(long, whole), 0) {
		for first := range 10 {
			for second := range 10 {
				b := body(function(long), 10, o, back(first, second))
				if first == 3 && second == 4 {
					tells(t, b, 0)
				} else {
					tells(t, b)
				}
			}
		}
	}
}

// O1: which registers these are does not matter, nor whether they rise, nor whether the call reads them, too.
func TestWhichRegisters(t *testing.T) {
	x := function(long, whole)
	for _, d := range [][]int{{0, 1}, {1, 0}, {9, 0}, {0, 9}, {7, 3}} {
		for _, o := range calls(d, x, 0) {
			tells(t, body(function(long), 10, o, back(d...)), 0)
			tells(t, body(function(long), 10, o, back(d[1], d[0])))
			o.S = slices.Repeat(row(d[1]), len(o.S))
			tells(t, body(function(long), 10, o, back(d...)), 0)
		}
	}
}

// O1: a Type of any number, with and without arguments beyond.
func TestCallsOfAnyNumber(t *testing.T) {
	for _, params := range [][]api.Type{nil, {whole}, {long}, {whole, whole, whole}} {
		x := function(whole, params...)
		for _, own := range []api.Type{function(whole), many(function(whole)), x, many(x), function(whole, some(6, ints(4))...), many(function(whole, some(6, ints(4))...))} {
			isAtTail(t, own, x)
			isNotAtTail(t, anyNumber, own, many(x))
			for beyond := range 2*api.MaxParams + 1 {
				for _, b := range ends(own, many(x), beyond) {
					tells(t, b)
				}
			}
		}
	}
}

// roomy is the type of a body whose Area is as great as there may be.
func roomy(result api.Type) api.Type {
	return function(result, some(6, ints(4))...)
}

// O1: parameters of up to four words are not copied, those of five and more are: the first one, one in the middle, the last one, the only one, and all of them.
func TestCopied(t *testing.T) {
	laid := []api.Type{whole, long, ints(1), ints(2), ints(3), ints(4), even, structure(long, long), structure(ints(3), whole), function(wide, wide)}
	copied := []api.Type{ints(5), ints(6), structure(long, whole, whole, whole), structure(ints(4), whole), structure(even, whole), structure(whole, even), wide}
	for _, others := range [][]api.Type{nil, some(2, whole), some(3, long), some(5, whole), some(5, ints(4)), some(5, even)} {
		for at := range len(others) + 1 {
			for _, part := range laid {
				isAtTail(t, roomy(whole), function(whole, slices.Insert(slices.Clone(others), at, part)...))
			}
			for _, part := range copied {
				isNotAtTail(t, isCopied, roomy(whole), function(whole, slices.Insert(slices.Clone(others), at, part)...))
			}
		}
	}
	for _, part := range copied {
		for n := range api.MaxParams {
			isNotAtTail(t, isCopied, roomy(whole), function(whole, some(n+1, part)...))
		}
	}
}

// O1: the body's own parameters may be copied.
func TestOwnCopied(t *testing.T) {
	for _, part := range []api.Type{ints(5), wide} {
		isAtTail(t, function(whole, part), function(whole))
		isAtTail(t, function(whole, part), function(whole, whole, long))
		isAtTail(t, function(whole, some(6, part)...), function(whole, some(6, whole)...))
		isNotAtTail(t, isCopied, function(whole, part), function(whole, part))
		isNotAtTail(t, isCopied, function(whole, part, whole), function(whole, whole, part))
	}
}

// O1: results of one word, of two, and of more.
func TestResults(t *testing.T) {
	results := [][]api.Type{
		1:  {whole, function(wide, wide), many(function(whole)), ints(1), structure(function(whole))},
		2:  {long, ints(2), structure(long), structure(ints(1), whole), structure(ints(2)), structure(structure(long))},
		3:  {ints(3), structure(ints(2), whole)},
		4:  {ints(4), even, structure(long, whole)},
		5:  {ints(5)},
		12: {wide},
	}
	for n, l := range results {
		for _, result := range l {
			for _, own := range l {
				for _, params := range [][]api.Type{nil, {whole}, {long, whole}} {
					if n <= 2 {
						isAtTail(t, function(own, params...), function(result, params...))
						isAtTail(t, many(function(own, params...)), function(result, params...))
					} else {
						isNotAtTail(t, manyWords, function(own, params...), function(result, params...))
						isNotAtTail(t, manyWords, many(function(own, params...)), function(result, params...))
					}
				}
			}
		}
	}
}

// O1: what is called, the body's own name, and whether it is static do not matter.
func TestWhoIsCalled(t *testing.T) {
	x := function(whole, whole)
	for _, name := range []string{"f", "g", "main", "", "return", "\x00"} {
		b := body(x, 2, call(row(1), x, 0), back(1))
		b.Code[0].Name = name
		tells(t, b, 0)
		b.Static = true
		tells(t, b, 0)
		b.Name = "main"
		tells(t, b, 0)
	}
}
