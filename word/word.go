// Package word is layer 1: numbers of 64 bits, what is done with two of them, and how they are told.
package word

import (
	"strconv"

	"turnstile/api"
)

// longest is how many bytes the longest Text has, that of -2^63.
const longest = 20

// Do answers what the operation c makes of a and b, in 64 bits with wrap-round. (P1.1)
func Do(c api.Calc, a, b int64) (int64, api.Errno) {
	switch c {
	case api.CalcAdd:
		return a + b, api.OK
	case api.CalcSub:
		return a - b, api.OK
	case api.CalcMul:
		return a * b, api.OK
	case api.CalcDiv, api.CalcMod:
		return divide(c, a, b)
	case api.CalcAnd:
		return a & b, api.OK
	case api.CalcOr:
		return a | b, api.OK
	case api.CalcXor:
		return a ^ b, api.OK
	case api.CalcShl:
		return int64(uint64(a) << places(b)), api.OK
	case api.CalcShr:
		// Noughts come in whatever the sign, so the bits are moved without one.
		return int64(uint64(a) >> places(b)), api.OK
	case api.CalcEq:
		return truth(a == b), api.OK
	case api.CalcNe:
		return truth(a != b), api.OK
	case api.CalcLt:
		return truth(a < b), api.OK
	case api.CalcLe:
		return truth(a <= b), api.OK
	}
	return 0, api.ErrArg
}

// divide needs no case of its own for -2^63 and -1: Go's quotient wraps round to -2^63 there, and leaves 0.
func divide(c api.Calc, a, b int64) (int64, api.Errno) {
	if b == 0 {
		return 0, api.ErrZero
	}
	if c == api.CalcDiv {
		return a / b, api.OK
	}
	return a % b, api.OK
}

// places says by how many places b moves bits: its lowest six bits alone count.
func places(b int64) uint {
	return uint(b & 63)
}

func truth(is bool) int64 {
	if is {
		return 1
	}
	return 0
}

// Text tells a number as R6 has it. (P1.2)
func Text(n int64) string {
	return strconv.FormatInt(n, 10)
}

// Parse answers the number whose Text s is. (P1.2)
func Parse(s string) (int64, api.Errno) {
	// The library copies a text that it refuses, so one that is too long does not come to it.
	if len(s) > longest {
		return 0, api.ErrForm
	}
	n, err := strconv.ParseInt(s, 10, 64)
	// The library takes more than Text tells: a + ahead, noughts ahead, -0.
	if err != nil || Text(n) != s {
		return 0, api.ErrForm
	}
	return n, api.OK
}
