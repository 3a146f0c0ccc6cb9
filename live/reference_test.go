package live_test

import (
	"slices"

	"scarfjoint/api"
)

// nextOnes are the orders to which one leads, by M1.
func nextOnes(b api.Body, at int) []int {
	l := []int{at + 1}
	if b.Code[at].Op == api.TJump {
		l = []int{b.Code[at].N}
	}
	if b.Code[at].Op == api.TZero {
		l = append(l, b.Code[at].N)
	}
	if b.Code[at].Op == api.TReturn {
		l = nil
	}
	return l
}

// isLive says by M1, taken word by word, whether a register is live ahead of an order: it goes all ways that begin with that one, each no further than up to an order that reads or writes the register.
func isLive(b api.Body, at, register int) bool {
	seen := make([]bool, len(b.Code))
	heads := []int{at}
	for len(heads) > 0 {
		var further []int
		for _, head := range heads {
			if seen[head] {
				continue
			}
			seen[head] = true
			if slices.Contains(b.Code[head].S, register) {
				return true
			}
			if !slices.Contains(b.Code[head].D, register) {
				further = append(further, nextOnes(b, head)...)
			}
		}
		heads = further
	}
	return false
}

// reference is what Of is to answer of a body that may be.
func reference(b api.Body) [][]int {
	l := make([][]int, len(b.Code))
	for at := range l {
		for register := range b.Regs {
			if isLive(b, at, register) {
				l[at] = append(l[at], register)
			}
		}
	}
	return l
}
