package colour

// set is a set of registers, a bit for each: thousands of them may lie apart from thousands.
type set []uint64

// newSet makes an empty set for so many registers.
func newSet(regs int) set {
	return make(set, (regs+63)/64)
}

func (s set) add(registers ...int) {
	for _, register := range registers {
		s[register/64] |= 1 << (register % 64)
	}
}

func (s set) drop(registers ...int) {
	for _, register := range registers {
		s[register/64] &^= 1 << (register % 64)
	}
}

func (s set) has(register int) bool {
	return s[register/64]>>(register%64)&1 == 1
}

// join adds all of another set, which has room for no more registers.
func (s set) join(other set) {
	for at, bits := range other {
		s[at] |= bits
	}
}

// meets says whether a register is in both of two sets, of which the first one has room for no more.
func (s set) meets(other set) bool {
	for at, bits := range s {
		if bits&other[at] != 0 {
			return true
		}
	}
	return false
}
