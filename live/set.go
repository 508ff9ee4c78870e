package live

import (
	"math/bits"

	"turnstile/api"
)

// none is no register.
const none = -1

// set is a set of registers, each of them a bit. As an array it is a value: it is copied when it is handed on, and two are the same if they are equal.
type set [(api.MaxRegs + 63) / 64]uint64

func (s *set) put(r int) {
	if r != none {
		s[r/64] |= 1 << (r % 64)
	}
}

func (s *set) take(r int) {
	if r != none {
		s[r/64] &^= 1 << (r % 64)
	}
}

// with is what is in the one or the other.
func (s set) with(other set) set {
	for k, w := range other {
		s[k] |= w
	}
	return s
}

// less is what is in the one alone.
func (s set) less(other set) set {
	for k, w := range other {
		s[k] &^= w
	}
	return s
}

// both is what is in the one and in the other.
func (s set) both(other set) set {
	for k, w := range other {
		s[k] &= w
	}
	return s
}

// each hands on the registers, rising.
func (s set) each(yield func(r int) bool) {
	for k, w := range s {
		for ; w != 0; w &= w - 1 {
			if !yield(k*64 + bits.TrailingZeros64(w)) {
				return
			}
		}
	}
}

func (s set) list() (l []int) {
	for r := range s.each {
		l = append(l, r)
	}
	return l
}
