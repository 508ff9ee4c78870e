package word_test

import (
	"math"
	"math/big"
	"math/rand"
	"regexp"
	"strings"
	"testing"

	"turnstile/api"
	"turnstile/word"
)

const (
	least    = int64(math.MinInt64)
	greatest = int64(math.MaxInt64)
)

// edges are numbers at which wrap-round, signs and shifts change what is answered.
var edges = []int64{
	least, least + 1, least + 2, least / 2, -1 << 32, -1 << 31, -65, -64, -63, -8, -7, -4, -3, -2, -1,
	0, 1, 2, 3, 4, 7, 8, 62, 63, 64, 65, 127, 128, 1 << 31, 1 << 32, 1 << 62, greatest - 1, greatest,
}

// numbers are the edges, and others of all sizes that are always the same ones.
func numbers() []int64 {
	r := rand.New(rand.NewSource(1))
	l := append([]int64(nil), edges...)
	for i := range 40 {
		l = append(l, int64(r.Uint64())>>(i%64))
	}
	return l
}

// do answers what Do does, where it has to answer without an error.
func do(t *testing.T, c api.Calc, a, b int64) int64 {
	t.Helper()
	n, e := word.Do(c, a, b)
	if e != api.OK {
		t.Fatalf("Do(%d, %d, %d): the error %d", c, a, b, e)
	}
	return n
}

type row struct {
	c       api.Calc
	a, b, n int64
}

func testRows(t *testing.T, rows []row) {
	t.Helper()
	for _, r := range rows {
		if n := do(t, r.c, r.a, r.b); n != r.n {
			t.Errorf("Do(%d, %d, %d): %d, not %d", r.c, r.a, r.b, n, r.n)
		}
	}
}

func TestDoAddSubMul(t *testing.T) {
	testRows(t, []row{
		{api.CalcAdd, 2, 3, 5},
		{api.CalcAdd, 2, -3, -1},
		{api.CalcAdd, greatest, 1, least},
		{api.CalcAdd, least, -1, greatest},
		{api.CalcAdd, least, least, 0},
		{api.CalcAdd, greatest, greatest, -2},
		{api.CalcSub, 2, 3, -1},
		{api.CalcSub, 3, 2, 1},
		{api.CalcSub, 0, least, least},
		{api.CalcSub, least, 1, greatest},
		{api.CalcSub, greatest, -1, least},
		{api.CalcMul, 6, 7, 42},
		{api.CalcMul, -6, 7, -42},
		{api.CalcMul, least, -1, least},
		{api.CalcMul, greatest, greatest, 1},
		{api.CalcMul, greatest, 2, -2},
		{api.CalcMul, 1 << 32, 1 << 31, least},
		{api.CalcMul, 1 << 40, 1 << 40, 0},
	})
}

func TestDoDivMod(t *testing.T) {
	testRows(t, []row{
		{api.CalcDiv, 7, 2, 3}, {api.CalcMod, 7, 2, 1},
		{api.CalcDiv, -7, 2, -3}, {api.CalcMod, -7, 2, -1},
		{api.CalcDiv, 7, -2, -3}, {api.CalcMod, 7, -2, 1},
		{api.CalcDiv, -7, -2, 3}, {api.CalcMod, -7, -2, -1},
		{api.CalcDiv, 6, -3, -2}, {api.CalcMod, -6, 3, 0},
		{api.CalcDiv, 0, 5, 0}, {api.CalcMod, 0, -5, 0},
		{api.CalcDiv, 1, 2, 0}, {api.CalcMod, -1, 2, -1},
		{api.CalcDiv, least, -1, least}, {api.CalcMod, least, -1, 0},
		{api.CalcDiv, least, 1, least}, {api.CalcMod, least, 1, 0},
		{api.CalcDiv, least, least, 1}, {api.CalcMod, least, least, 0},
		{api.CalcDiv, greatest, least, 0}, {api.CalcMod, greatest, least, greatest},
		{api.CalcDiv, least, greatest, -1}, {api.CalcMod, least, greatest, -1},
		{api.CalcDiv, greatest, -1, -greatest}, {api.CalcMod, greatest, -1, 0},
	})
}

func TestDoBits(t *testing.T) {
	testRows(t, []row{
		{api.CalcAnd, 12, 10, 8}, {api.CalcAnd, -1, least, least}, {api.CalcAnd, least, greatest, 0},
		{api.CalcOr, 12, 10, 14}, {api.CalcOr, least, greatest, -1}, {api.CalcOr, 0, 0, 0},
		{api.CalcXor, 12, 10, 6}, {api.CalcXor, -1, least, greatest}, {api.CalcXor, -1, -1, 0},
	})
}

func TestDoShifts(t *testing.T) {
	testRows(t, []row{
		{api.CalcShl, 5, 0, 5}, {api.CalcShr, 5, 0, 5}, {api.CalcShr, -5, 0, -5},
		{api.CalcShl, 5, 1, 10}, {api.CalcShr, 5, 1, 2},
		{api.CalcShl, 1, 63, least}, {api.CalcShl, 2, 63, 0}, {api.CalcShl, -1, 63, least},
		{api.CalcShr, -1, 63, 1}, {api.CalcShr, greatest, 63, 0}, {api.CalcShr, least, 63, 1},
		{api.CalcShl, 5, 64, 5}, {api.CalcShr, -5, 64, -5},
		{api.CalcShl, 1, 65, 2}, {api.CalcShr, 4, 65, 2}, {api.CalcShr, -1, 65, greatest},
		{api.CalcShr, -1, 1, greatest}, {api.CalcShr, -1, 60, 15}, {api.CalcShr, least, 1, 1 << 62},
		{api.CalcShl, 1, -1, least}, {api.CalcShr, -1, -1, 1}, {api.CalcShr, -1, -4, 15},
		{api.CalcShl, 3, -64, 3}, {api.CalcShl, 3, -63, 6}, {api.CalcShr, -3, -64, -3},
		{api.CalcShl, 3, least, 3}, {api.CalcShr, 3, least, 3},
		{api.CalcShl, 1, greatest, least}, {api.CalcShr, least, greatest, 1},
		{api.CalcShl, 3, 1 << 32, 3}, {api.CalcShr, 3, 1<<40 + 1, 1},
	})
}

func TestDoComparisons(t *testing.T) {
	for i, a := range edges {
		for j, b := range edges {
			testRows(t, []row{
				{api.CalcEq, a, b, truth(i == j)},
				{api.CalcNe, a, b, truth(i != j)},
				{api.CalcLt, a, b, truth(i < j)},
				{api.CalcLe, a, b, truth(i <= j)},
			})
		}
	}
}

func truth(is bool) int64 {
	if is {
		return 1
	}
	return 0
}

// TestDoNone holds that of all that c may be just the fourteen operations are some, whatever a and b are.
func TestDoNone(t *testing.T) {
	for c := range 256 {
		for _, a := range []int64{0, 1, least, greatest} {
			for _, b := range []int64{0, 1, -1} {
				want := api.OK
				switch {
				case c < int(api.CalcAdd) || c > int(api.CalcLe):
					want = api.ErrArg
				case b == 0 && (c == int(api.CalcDiv) || c == int(api.CalcMod)):
					want = api.ErrZero
				}
				n, e := word.Do(api.Calc(c), a, b)
				if e != want || e != api.OK && n != 0 {
					t.Errorf("Do(%d, %d, %d): %d and the error %d, not %d", c, a, b, n, e, want)
				}
			}
		}
	}
}

func TestDoByNought(t *testing.T) {
	for _, a := range numbers() {
		for _, c := range []api.Calc{api.CalcDiv, api.CalcMod} {
			if n, e := word.Do(c, a, 0); n != 0 || e != api.ErrZero {
				t.Errorf("Do(%d, %d, 0): %d and the error %d", c, a, n, e)
			}
		}
	}
}

// wrapped answers the number of 64 bits that has the lowest 64 bits of x.
func wrapped(x *big.Int) int64 {
	low := new(big.Int).And(x, new(big.Int).SetUint64(math.MaxUint64))
	return int64(low.Uint64())
}

// TestDoAgainstGreatNumbers holds Do against numbers that never wrap round.
func TestDoAgainstGreatNumbers(t *testing.T) {
	for _, a := range numbers() {
		for _, b := range numbers() {
			x, y := big.NewInt(a), big.NewInt(b)
			places := uint(new(big.Int).And(y, big.NewInt(63)).Uint64())
			bits := new(big.Int).SetUint64(uint64(a))
			testRows(t, []row{
				{api.CalcAdd, a, b, wrapped(new(big.Int).Add(x, y))},
				{api.CalcSub, a, b, wrapped(new(big.Int).Sub(x, y))},
				{api.CalcMul, a, b, wrapped(new(big.Int).Mul(x, y))},
				{api.CalcAnd, a, b, wrapped(new(big.Int).And(x, y))},
				{api.CalcOr, a, b, wrapped(new(big.Int).Or(x, y))},
				{api.CalcXor, a, b, wrapped(new(big.Int).Xor(x, y))},
				{api.CalcShl, a, b, wrapped(new(big.Int).Lsh(bits, places))},
				{api.CalcShr, a, b, wrapped(new(big.Int).Rsh(bits, places))},
			})
			if b != 0 {
				testRows(t, []row{
					{api.CalcDiv, a, b, wrapped(new(big.Int).Quo(x, y))},
					{api.CalcMod, a, b, wrapped(new(big.Int).Rem(x, y))},
				})
			}
		}
	}
}

func TestTextAndParse(t *testing.T) {
	rows := []struct {
		n int64
		s string
	}{
		{0, "0"}, {1, "1"}, {-1, "-1"}, {7, "7"}, {9, "9"}, {10, "10"}, {-10, "-10"}, {100, "100"}, {-305, "-305"},
		{greatest, "9223372036854775807"}, {greatest - 1, "9223372036854775806"},
		{least, "-9223372036854775808"}, {least + 1, "-9223372036854775807"},
		{1000000000000000000, "1000000000000000000"},
	}
	for _, r := range rows {
		if s := word.Text(r.n); s != r.s {
			t.Errorf("Text(%d): %q", r.n, s)
		}
		if n, e := word.Parse(r.s); n != r.n || e != api.OK {
			t.Errorf("Parse(%q): %d and the error %d", r.s, n, e)
		}
	}
	for _, n := range numbers() {
		if s := big.NewInt(n).String(); word.Text(n) != s {
			t.Errorf("Text(%d): %q", n, word.Text(n))
		}
	}
}

func testNone(t *testing.T, s string) {
	t.Helper()
	if n, e := word.Parse(s); n != 0 || e != api.ErrForm {
		t.Errorf("Parse(%.40q): %d and the error %d", s, n, e)
	}
}

func TestParseNone(t *testing.T) {
	for _, s := range []string{
		"", "-", "+", "--1", "-+1", "+-1", "- 1", "07", "00", "-07", "-0", "-00", "+1", "+0",
		" ", " 1", "1 ", "1 2", "\t1", "1\n", "1\r", "\x001", "1\x00", "_1", "1_", "1_0", "1,000", "_",
		"a", "1a", "a1", "0x10", "0b1", "0o7", "1e3", "1.0", "1.", ".5", "inf", "nil", "NaN", "1-", "1-1", "5+",
		"\u0663", "\uff11", "\u22121", "\xff", "1\xff",
		"9223372036854775808", "-9223372036854775809", "9223372036854775810", "-9223372036854775810", "18446744073709551615",
		"18446744073709551616", "18446744073709551617", "-18446744073709551615", "-18446744073709551616", "99999999999999999999",
		"09223372036854775807", "-09223372036854775808", "+9223372036854775807", "00000000000000000001",
	} {
		testNone(t, s)
	}
	for _, n := range []int{20, 21, 1 << 20} {
		testNone(t, strings.Repeat("0", n))
		testNone(t, strings.Repeat("1", n))
		testNone(t, "-"+strings.Repeat("9", n))
	}
}

// TestParseShortTexts goes through all texts of at most four bytes of those that numbers' texts have, and some beside them.
func TestParseShortTexts(t *testing.T) {
	form := regexp.MustCompile(`^(0|-?[1-9][0-9]*)$`)
	texts := []string{""}
	for first := 0; first < len(texts); first++ {
		s := texts[first]
		if len(s) < 4 {
			for _, c := range "-+0129 _x." {
				texts = append(texts, s+string(c))
			}
		}
		if !form.MatchString(s) {
			testNone(t, s)
		} else if n, e := word.Parse(s); e != api.OK || word.Text(n) != s {
			t.Errorf("Parse(%q): %d and the error %d", s, n, e)
		}
	}
}

func TestParseUndoesText(t *testing.T) {
	for _, n := range numbers() {
		if m, e := word.Parse(word.Text(n)); m != n || e != api.OK {
			t.Errorf("Parse(Text(%d)): %d and the error %d", n, m, e)
		}
	}
}

func TestRing(t *testing.T) {
	add := func(a, b int64) int64 { return do(t, api.CalcAdd, a, b) }
	mul := func(a, b int64) int64 { return do(t, api.CalcMul, a, b) }
	sub := func(a, b int64) int64 { return do(t, api.CalcSub, a, b) }
	for _, a := range edges {
		if add(a, 0) != a || mul(a, 1) != a || mul(a, 0) != 0 || add(a, sub(0, a)) != 0 {
			t.Errorf("0, 1 or what undoes it: %d", a)
		}
		for _, b := range edges {
			if add(a, b) != add(b, a) || mul(a, b) != mul(b, a) {
				t.Errorf("turned round: %d, %d", a, b)
			}
			if sub(add(a, b), b) != a || add(sub(a, b), b) != a {
				t.Errorf("Sub does not undo Add: %d, %d", a, b)
			}
			for _, c := range edges {
				if add(a, add(b, c)) != add(add(a, b), c) || mul(a, mul(b, c)) != mul(mul(a, b), c) {
					t.Errorf("in other brackets: %d, %d, %d", a, b, c)
				}
				if mul(a, add(b, c)) != add(mul(a, b), mul(a, c)) {
					t.Errorf("the product of a sum: %d, %d, %d", a, b, c)
				}
			}
		}
	}
}

// size is how far a number is from 0: of -2^63 no int64 tells it.
func size(n int64) uint64 {
	if n < 0 {
		return -uint64(n)
	}
	return uint64(n)
}

func TestQuotientAndRest(t *testing.T) {
	for _, a := range numbers() {
		for _, b := range numbers() {
			if b == 0 {
				continue
			}
			quotient, rest := do(t, api.CalcDiv, a, b), do(t, api.CalcMod, a, b)
			if do(t, api.CalcAdd, do(t, api.CalcMul, b, quotient), rest) != a {
				t.Errorf("%d is not %d times %d and %d", a, b, quotient, rest)
			}
			if size(rest) >= size(b) || rest != 0 && (rest < 0) != (a < 0) {
				t.Errorf("of %d by %d is left %d", a, b, rest)
			}
		}
	}
}

func TestComparisonsMakeOne(t *testing.T) {
	for _, a := range numbers() {
		for _, b := range numbers() {
			if do(t, api.CalcEq, a, b)+do(t, api.CalcNe, a, b) != 1 {
				t.Errorf("Eq and Ne: %d, %d", a, b)
			}
			if do(t, api.CalcLt, a, b)+do(t, api.CalcLe, b, a) != 1 {
				t.Errorf("Lt and Le: %d, %d", a, b)
			}
		}
	}
}
