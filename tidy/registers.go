package tidy

import "turnstile/api"

// registers is a set of registers, each of them a bit.
type registers [(api.MaxRegs + 63) / 64]uint64

func (s *registers) has(r int) bool { return s[r/64]>>(r%64)&1 == 1 }

func (s *registers) put(r int) {
	if r != none {
		s[r/64] |= 1 << (r % 64)
	}
}

func (s *registers) take(r int) {
	if r != none {
		s[r/64] &^= 1 << (r % 64)
	}
}

// with is what is in the one or the other.
func (s registers) with(other registers) registers {
	for k, w := range other {
		s[k] |= w
	}
	return s
}
