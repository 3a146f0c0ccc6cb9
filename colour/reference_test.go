package colour_test

import (
	"fmt"
	"slices"

	"scarfjoint/api"
)

// nextOnes are the orders to which one leads, by M1.
func nextOnes(b api.Body, at int) []int {
	l := []int{at + 1}
	if b.Code[at].Op == api.TJump {
		l = []int{b.Code[at].N}
	}
	if b.Code[at].Op == api.TZero {
		l = append(l, b.Code[at].N)
	}
	if b.Code[at].Op == api.TReturn {
		l = nil
	}
	return l
}

// isLive says by M1, taken word by word, whether a register is live ahead of an order: it goes all ways that begin with that one, each no further than up to an order that reads or writes the register.
func isLive(b api.Body, at, register int) bool {
	seen := make([]bool, len(b.Code))
	heads := []int{at}
	for len(heads) > 0 {
		var further []int
		for _, head := range heads {
			if seen[head] {
				continue
			}
			seen[head] = true
			if slices.Contains(b.Code[head].S, register) {
				return true
			}
			if !slices.Contains(b.Code[head].D, register) {
				further = append(further, nextOnes(b, head)...)
			}
		}
		heads = further
	}
	return false
}

// reference gives of each order of a body that may be the registers that are live ahead of it.
func reference(b api.Body) [][]int {
	l := make([][]int, len(b.Code))
	for at := range l {
		for register := range b.Regs {
			if isLive(b, at, register) {
				l[at] = append(l[at], register)
			}
		}
	}
	return l
}

// amiss says what of N1 and N2 does not hold of what Of answers of a body, of whose orders it is known what is live ahead of them; nothing, if all of it holds.
func amiss(b api.Body, ahead [][]int, l []api.Loc) string {
	if wrong := amissAlone(b, l); wrong != "" {
		return wrong
	}
	for at, register := range ahead[0] {
		for _, other := range ahead[0][:at] {
			if l[register] == l[other] {
				return fmt.Sprintf("N2 (a): %d and %d lie together", other, register)
			}
		}
	}
	for at := range b.Code {
		for _, next := range nextOnes(b, at) {
			if wrong := amissBehind(b, at, ahead[next], l); wrong != "" {
				return wrong
			}
		}
	}
	return ""
}

// amissAlone says what of N1 does not hold.
func amissAlone(b api.Body, l []api.Loc) string {
	if len(l) != b.Regs {
		return fmt.Sprintf("N1: %d registers, %d places", b.Regs, len(l))
	}
	owner := map[int]int{}
	for register, x := range l {
		if x.N < 0 || !x.Stack && x.N > 11 || x.Stack && x.N >= b.Regs {
			return fmt.Sprintf("N1: %d lies at %v", register, x)
		}
		if other, ok := owner[x.N]; ok && x.Stack {
			return fmt.Sprintf("N1: the place of %d is not its own, but that of %d", register, other)
		}
		if x.Stack {
			owner[x.N] = register
		}
	}
	return ""
}

// amissBehind says what of N2 (b) and (c) does not hold of an order and what is live behind it.
func amissBehind(b api.Body, at int, behind []int, l []api.Loc) string {
	o := b.Code[at]
	for _, register := range o.D {
		for _, others := range [][]int{behind, o.D} {
			for _, other := range others {
				if other != register && l[other] == l[register] {
					return fmt.Sprintf("N2 (b): order %d: %d lies together with %d", at, register, other)
				}
			}
		}
	}
	for _, register := range behind {
		isCall := o.Op == api.TCall || o.Op == api.TCallr
		if isCall && !slices.Contains(o.D, register) && isLost(l[register]) {
			return fmt.Sprintf("N2 (c): order %d: %d is lost", at, register)
		}
	}
	return ""
}

// mayLie says whether some registers may lie at one place, while each other one has a place of the frame.
func mayLie(b api.Body, ahead [][]int, x api.Loc, registers ...int) bool {
	l := make([]api.Loc, b.Regs)
	for register := range l {
		l[register] = api.Loc{Stack: true, N: register}
	}
	for _, register := range registers {
		l[register] = x
	}
	return amiss(b, ahead, l) == ""
}
