package lex_test

import (
	"math"
	"math/big"
	"math/rand"
	"regexp"
	"slices"
	"strings"
	"testing"

	"turnstile/api"
	"turnstile/lex"
)

const least = int64(math.MinInt64)

var (
	words = []string{"record", "shared", "func", "thread", "var", "if", "else", "while", "atomic", "print", "return", "new", "nil", "int"}
	pairs = []string{"==", "!=", "<=", ">=", "&&", "||"}
	signs = strings.Split("{ } ( ) [ ] . , ; = < > + - * / % !", " ")
)

func name(s string, line int) api.Token {
	return api.Token{Kind: api.TkName, Text: s, Line: line}
}

func keyword(s string, line int) api.Token {
	return api.Token{Kind: api.TkWord, Text: s, Line: line}
}

func number(s string, n int64, line int) api.Token {
	return api.Token{Kind: api.TkNumber, Text: s, N: n, Line: line}
}

func sign(s string, line int) api.Token {
	return api.Token{Kind: api.TkSign, Text: s, Line: line}
}

// short keeps what a failed test tells readable.
func short(s string) string {
	if len(s) > 60 {
		return s[:60] + ".."
	}
	return s
}

// testTokens holds that the text has these tokens.
func testTokens(t *testing.T, text string, want ...api.Token) {
	t.Helper()
	l, line, e := lex.Tokens(text)
	if e != api.OK || line != 0 || !slices.Equal(l, want) {
		t.Errorf("Tokens(%q): %v, line %d, the error %d; not %v", short(text), l, line, e, want)
	}
}

// testFault holds that the text is refused so, and that nothing else is answered.
func testFault(t *testing.T, text string, line int, e api.Errno) {
	t.Helper()
	l, at, got := lex.Tokens(text)
	if len(l) != 0 || at != line || got != e {
		t.Errorf("Tokens(%q): %d tokens, line %d, the error %d; not line %d, the error %d", short(text), len(l), at, got, line, e)
	}
}

func TestTokens(t *testing.T) {
	testTokens(t, "shared n1 int;", keyword("shared", 0), name("n1", 0), keyword("int", 0), sign(";", 0))
	testTokens(t, "a<=b=-5//c", name("a", 0), sign("<=", 0), name("b", 0), sign("=", 0), sign("-", 0), number("5", 5, 0))
	testTokens(t, "\nx", name("x", 1))
	testTokens(t, "5x", number("5", 5, 0), name("x", 0))
	testTokens(t, "a_b", name("a_b", 0))
	testTokens(t, "===", sign("==", 0), sign("=", 0))
	testTokens(t, "thread {\n\tvar a [4]int = new [4]int; // four\n\ta[3] = 10 % 4;\n}\n",
		keyword("thread", 0), sign("{", 0),
		keyword("var", 1), name("a", 1), sign("[", 1), number("4", 4, 1), sign("]", 1), keyword("int", 1), sign("=", 1),
		keyword("new", 1), sign("[", 1), number("4", 4, 1), sign("]", 1), keyword("int", 1), sign(";", 1),
		name("a", 2), sign("[", 2), number("3", 3, 2), sign("]", 2), sign("=", 2), number("10", 10, 2), sign("%", 2), number("4", 4, 2), sign(";", 2),
		sign("}", 3))
}

func TestTokensOfNothing(t *testing.T) {
	for _, text := range []string{"", " ", "\n", "\t\r\n  \n", "//", "// x", "//\n", "// x\n", "//\r\n//\n", "\n\n// x", "// #_A\x00\xff\u00e9\n\t// 9223372036854775809\n"} {
		testTokens(t, text)
	}
}

// TestBlanks holds that just four bytes stand between tokens and say nothing.
func TestBlanks(t *testing.T) {
	for c := range 256 {
		if strings.IndexByte(" \t\n\r", byte(c)) < 0 {
			continue
		}
		line := 0
		if c == '\n' {
			line = 1
		}
		b := string([]byte{byte(c)})
		testTokens(t, b)
		testTokens(t, b+b)
		testTokens(t, b+"x", name("x", line))
		testTokens(t, "x"+b, name("x", 0))
		testTokens(t, "a"+b+"b", name("a", 0), name("b", line))
		testTokens(t, "1"+b+"2", number("1", 1, 0), number("2", 2, line))
		testTokens(t, "="+b+"=", sign("=", 0), sign("=", line))
	}
	for _, b := range []string{"\x00", "\x08", "\x0b", "\x0c", "\x0e", "\x1f", "\x7f", "\x85", "\xa0", "\u00a0", "\u2028", "\ufeff"} {
		testFault(t, b, 0, api.ErrToken)
		testFault(t, "a"+b+"b", 0, api.ErrToken)
	}
}

func TestRemarks(t *testing.T) {
	testTokens(t, "a//b", name("a", 0))
	testTokens(t, "a//b\nc", name("a", 0), name("c", 1))
	testTokens(t, "a//\nb", name("a", 0), name("b", 1))
	testTokens(t, "a//b\rc", name("a", 0))
	testTokens(t, "a//b\r\nc", name("a", 0), name("c", 1))
	testTokens(t, "a//b//c\n//d\ne", name("a", 0), name("e", 2))
	testTokens(t, "a///b\nc", name("a", 0), name("c", 1))
	testTokens(t, "a/b", name("a", 0), sign("/", 0), name("b", 0))
	testTokens(t, "a/ /b", name("a", 0), sign("/", 0), sign("/", 0), name("b", 0))
	testTokens(t, "a/\n/b", name("a", 0), sign("/", 0), sign("/", 1), name("b", 1))
	testTokens(t, "/", sign("/", 0))
	testTokens(t, "=//=\n=", sign("=", 0), sign("=", 1))
	testTokens(t, "/*a*/", sign("/", 0), sign("*", 0), name("a", 0), sign("*", 0), sign("/", 0))
	for c := range 256 {
		if c != '\n' {
			testTokens(t, "a//"+string([]byte{byte(c)})+"\nb", name("a", 0), name("b", 1))
		}
	}
}

// TestFirstBytes goes through all bytes: at which does a token begin, and which one?
func TestFirstBytes(t *testing.T) {
	for c := range 256 {
		s := string([]byte{byte(c)})
		switch {
		case c >= 'a' && c <= 'z':
			testTokens(t, s, name(s, 0))
		case c >= '0' && c <= '9':
			testTokens(t, s, number(s, int64(c-'0'), 0))
		case slices.Contains(signs, s):
			testTokens(t, s, sign(s, 0))
		case strings.IndexByte(" \t\n\r", byte(c)) >= 0:
			testTokens(t, s)
		default:
			testFault(t, s, 0, api.ErrToken)
			testFault(t, "x = 5; "+s, 0, api.ErrToken)
			testFault(t, "x\n5"+s, 1, api.ErrToken)
			testFault(t, s+"\n5", 0, api.ErrToken)
		}
	}
}

func TestSigns(t *testing.T) {
	for _, s := range signs {
		testTokens(t, s, sign(s, 0))
		testTokens(t, "a"+s+" 5", name("a", 0), sign(s, 0), number("5", 5, 0))
	}
	for _, s := range pairs {
		testTokens(t, s, sign(s, 0))
		testTokens(t, s+s, sign(s, 0), sign(s, 0))
		testTokens(t, s+"=", sign(s, 0), sign("=", 0))
		testTokens(t, "a"+s+"5", name("a", 0), sign(s, 0), number("5", 5, 0))
	}
	for _, first := range signs {
		for _, second := range signs {
			s := first + second
			if s != "//" && !slices.Contains(pairs, s) {
				testTokens(t, s, sign(first, 0), sign(second, 0))
			}
		}
	}
	testTokens(t, "====", sign("==", 0), sign("==", 0))
	testTokens(t, "!==", sign("!=", 0), sign("=", 0))
	testTokens(t, "=!=", sign("=", 0), sign("!=", 0))
	testTokens(t, "<==>", sign("<=", 0), sign("=", 0), sign(">", 0))
	testTokens(t, "!!=", sign("!", 0), sign("!=", 0))
	testTokens(t, "a=-5", name("a", 0), sign("=", 0), sign("-", 0), number("5", 5, 0))
	for _, text := range []string{"&", "|", "a & b", "a | b", "&&&", "|||", "& &", "|\n|", "&|", "|&", "&=", "a&", "a|", "&&|"} {
		testFault(t, text, 0, api.ErrToken)
	}
}

func TestWords(t *testing.T) {
	for _, w := range words {
		if !lex.Word(w) || lex.Name(w) {
			t.Errorf("%s: a word %v, a name %v", w, lex.Word(w), lex.Name(w))
		}
		testTokens(t, w, keyword(w, 0))
		testTokens(t, "("+w+"\n"+w, sign("(", 0), keyword(w, 0), keyword(w, 1))
		for _, s := range []string{w + "s", w + "0", w + "_", "a" + w, w + w, w[1:], w[:len(w)-1]} {
			if lex.Word(s) || !lex.Name(s) {
				t.Errorf("%s: a word %v, a name %v", s, lex.Word(s), lex.Name(s))
			}
			testTokens(t, s, name(s, 0))
		}
		for _, s := range []string{strings.ToUpper(w), strings.ToUpper(w[:1]) + w[1:], w[:1] + strings.ToUpper(w[1:]), " " + w, w + " ", w + "\n", "", w + "\x00", "_" + w, "0" + w} {
			if lex.Word(s) || lex.Name(s) {
				t.Errorf("%q: a word %v, a name %v", s, lex.Word(s), lex.Name(s))
			}
		}
		testTokens(t, "0"+w, number("0", 0, 0), keyword(w, 0))
	}
	for _, s := range []string{"for", "bool", "true", "false", "const", "type", "break", "string"} {
		if lex.Word(s) || !lex.Name(s) {
			t.Errorf("%s is a name, and no word", s)
		}
	}
}

func TestNames(t *testing.T) {
	for _, s := range []string{"a", "z", "a_1", "a_", "a__b", "z9", "n1", "a0", "abcdefghijklmnop", "a______________0", "z999999999999999"} {
		if !lex.Name(s) || lex.Word(s) {
			t.Errorf("%s is a name, and no word", s)
		}
		testTokens(t, s, name(s, 0))
		testTokens(t, s+"."+s, name(s, 0), sign(".", 0), name(s, 0))
	}
	for _, s := range []string{"", "_", "_a", "0", "0a", "9z", "A", "aB", "a b", " a", "a ", "a\n", "a.b", "a-b", "a\x00", "\x00a", "a\xff", "\u00e9", "a\u00e9", "a`", "a{", "a/", "a:", "a@", "a["} {
		if lex.Name(s) || lex.Word(s) {
			t.Errorf("%q is neither a name nor a word", s)
		}
	}
}

func TestNameBytes(t *testing.T) {
	form := regexp.MustCompile(`^[a-z][a-z0-9_]*$`)
	for first := range 256 {
		for second := range 256 {
			s := string([]byte{byte(first), byte(second)})
			if lex.Name(s) != (form.MatchString(s) && s != "if") {
				t.Errorf("Name(%q): %v", s, lex.Name(s))
			}
		}
	}
}

func TestNameLength(t *testing.T) {
	for n := 1; n <= 3*api.MaxName; n++ {
		s := strings.Repeat("x", n)
		if lex.Name(s) != (n <= api.MaxName) {
			t.Errorf("Name of %d letters: %v", n, lex.Name(s))
		}
		if n <= api.MaxName {
			testTokens(t, s, name(s, 0))
		} else {
			testFault(t, s, 0, api.ErrToken)
			testFault(t, "a\n\n"+s+"\n", 2, api.ErrToken)
		}
	}
	testFault(t, "abcdefghijklmnopq", 0, api.ErrToken)
	testFault(t, "a123456789_______", 0, api.ErrToken)
	testFault(t, "thread_and_then_more", 0, api.ErrToken)
	testFault(t, strings.Repeat("x", api.MaxText), 0, api.ErrToken)
	testTokens(t, "abcdefghijklmnop+", name("abcdefghijklmnop", 0), sign("+", 0))
	if lex.Name(strings.Repeat("x", 1<<20)) || lex.Word(strings.Repeat("int", 1<<20)) {
		t.Error("a long text is a name or a word")
	}
}

func TestNumbers(t *testing.T) {
	testTokens(t, "0", number("0", 0, 0))
	testTokens(t, "7", number("7", 7, 0))
	testTokens(t, "10", number("10", 10, 0))
	testTokens(t, "100200", number("100200", 100200, 0))
	testTokens(t, "9223372036854775806", number("9223372036854775806", math.MaxInt64-1, 0))
	testTokens(t, "9223372036854775807", number("9223372036854775807", math.MaxInt64, 0))
	testTokens(t, "9223372036854775808", number("9223372036854775808", least, 0))
	testTokens(t, "-9223372036854775808", sign("-", 0), number("9223372036854775808", least, 0))
	testTokens(t, "-0", sign("-", 0), number("0", 0, 0))
	testTokens(t, "+1", sign("+", 0), number("1", 1, 0))
	testTokens(t, "12ab3", number("12", 12, 0), name("ab3", 0))
	testTokens(t, "0x10", number("0", 0, 0), name("x10", 0))
	testTokens(t, "1e3", number("1", 1, 0), name("e3", 0))
	testTokens(t, "5int", number("5", 5, 0), keyword("int", 0))
	testTokens(t, "1.5", number("1", 1, 0), sign(".", 0), number("5", 5, 0))
	testTokens(t, "0 0", number("0", 0, 0), number("0", 0, 0))
	testTokens(t, "9223372036854775808x", number("9223372036854775808", least, 0), name("x", 0))
	for _, text := range []string{
		"00", "01", "05", "007", "05x", "a 05", "-05", "1 00",
		"9223372036854775809", "9223372036854775810", "9223372036854775900", "9223372036854775809x", "-9223372036854775809",
		"18446744073709551615", "18446744073709551616", "18446744073709551617", "27670116110564327424", "10000000000000000000", "99999999999999999999",
		"09223372036854775807", "09223372036854775808", "00000000000000000001",
		strings.Repeat("0", api.MaxText), strings.Repeat("1", api.MaxText),
		"1_000", "5_", "5A",
	} {
		testFault(t, text, 0, api.ErrToken)
	}
}

func TestLines(t *testing.T) {
	testTokens(t, "a\n\nb // c\n// d\n\t5\n", name("a", 0), name("b", 2), number("5", 5, 4))
	testTokens(t, "\r\n\r\nx\ry", name("x", 2), name("y", 2))
	testTokens(t, "a b\nc d", name("a", 0), name("b", 0), name("c", 1), name("d", 1))
	testFault(t, "a\n#", 1, api.ErrToken)
	testFault(t, "#\na\n", 0, api.ErrToken)
	testFault(t, "\n\n\n#\n\n#", 3, api.ErrToken)
	testFault(t, "a // x\n// y\n\r\n b 05\n_", 3, api.ErrToken)
	testFault(t, "a\nb\nc\n&\n", 3, api.ErrToken)
	testFault(t, "a\n\nA", 2, api.ErrToken)
	testFault(t, "5\n\xff", 1, api.ErrToken)
	testFault(t, "// \xff\n\xff", 1, api.ErrToken)
	testFault(t, "abc\n  abcdefghijklmnopq\n#", 1, api.ErrToken)
	testFault(t, "abc\n\n  9223372036854775809\n#", 2, api.ErrToken)
}

func TestTextLimit(t *testing.T) {
	full := strings.Repeat("a", api.MaxName)
	full = strings.Repeat(full+"\n", api.MaxText/len(full))[:api.MaxText-1]
	for _, end := range []string{"\n", ";", "/", " "} {
		l, line, e := lex.Tokens(full + end)
		if e != api.OK || line != 0 || len(l) < 3000 {
			t.Errorf("a text of MaxText bytes that ends in %q: %d tokens, line %d, the error %d", end, len(l), line, e)
		}
		testFault(t, full+end+" ", 0, api.ErrLimit)
		testFault(t, full+end+"\n", 0, api.ErrLimit)
	}
	testTokens(t, strings.Repeat("\n", api.MaxText-1)+"x", name("x", api.MaxText-1))
	testFault(t, strings.Repeat("\n", api.MaxText-1)+"#", api.MaxText-1, api.ErrToken)
	testTokens(t, "//"+strings.Repeat("#", api.MaxText-2))
	testTokens(t, strings.Repeat(" ", api.MaxText))
	testTokens(t, strings.Repeat("//\n", api.MaxText/3)+"x", name("x", api.MaxText/3))
	for _, text := range []string{strings.Repeat(" ", api.MaxText+1), "\n#" + strings.Repeat("#", api.MaxText), strings.Repeat("\n", api.MaxText) + "#", "//" + strings.Repeat("x", api.MaxText-1), strings.Repeat("x", 1<<22)} {
		testFault(t, text, 0, api.ErrLimit)
	}
}

// TestEveryByteOften holds that a text of one byte alone, as long as may be, has as many tokens as it should.
func TestEveryByteOften(t *testing.T) {
	for c := range 256 {
		s := string([]byte{byte(c)})
		want := 0
		switch {
		case slices.Contains(signs, s) && s != "=" && s != "/":
			want = api.MaxText
		case s == "=" || s == "&" || s == "|":
			want = api.MaxText / 2
		}
		l, _, e := lex.Tokens(strings.Repeat(s, api.MaxText))
		if len(l) != want || e != api.OK && e != api.ErrToken || e != api.OK && want != 0 {
			t.Errorf("%q, again and again: %d tokens, the error %d", s, len(l), e)
		}
	}
}

var (
	nothing = regexp.MustCompile(`^([ \t\n\r]|//[^\n]*)*`)
	token   = regexp.MustCompile(`^([a-z][a-z0-9_]*|[0-9]+|==|!=|<=|>=|&&|\|\||[{}()\[\].,;=<>+\-*/%!])`)
)

// expected works a text's tokens out by other means: the chapter's words as patterns, and numbers that never wrap round.
func expected(text string) ([]api.Token, int, api.Errno) {
	var l []api.Token
	for at := 0; ; {
		at += len(nothing.FindString(text[at:]))
		line := strings.Count(text[:at], "\n")
		if at == len(text) {
			return l, 0, api.OK
		}
		s := token.FindString(text[at:])
		if s == "" {
			return nil, line, api.ErrToken
		}
		at += len(s)
		k := api.Token{Kind: api.TkSign, Text: s, Line: line}
		switch {
		case slices.Contains(words, s):
			k.Kind = api.TkWord
		case s[0] >= 'a' && s[0] <= 'z':
			k.Kind = api.TkName
			if len(s) > 16 {
				return nil, line, api.ErrToken
			}
		case s[0] >= '0' && s[0] <= '9':
			n, _ := new(big.Int).SetString(s, 10)
			if n.String() != s || n.Cmp(new(big.Int).Lsh(big.NewInt(1), 63)) > 0 {
				return nil, line, api.ErrToken
			}
			k.Kind, k.N = api.TkNumber, int64(n.Uint64())
		}
		l = append(l, k)
	}
}

func testExpected(t *testing.T, text string) {
	t.Helper()
	l, line, e := lex.Tokens(text)
	want, at, fault := expected(text)
	if line != at || e != fault || !slices.Equal(l, want) {
		t.Errorf("Tokens(%q): %v, line %d, the error %d; not %v, line %d, the error %d", text, l, line, e, want, at, fault)
	}
}

// TestShortTexts goes through all texts of two bytes, and all of at most four of the bytes that mean most.
func TestShortTexts(t *testing.T) {
	for first := range 256 {
		for second := range 256 {
			testExpected(t, string([]byte{byte(first), byte(second)}))
		}
	}
	texts := []string{""}
	for at := 0; at < len(texts); at++ {
		testExpected(t, texts[at])
		if len(texts[at]) < 4 {
			for _, c := range "if0 5_\n/=!&|#A" {
				texts = append(texts, texts[at]+string(c))
			}
		}
	}
}

// piece is a part of a text, of which few are wrong ones.
func piece(r *rand.Rand) string {
	numbers := []string{"0", "1", "42", "9223372036854775807", "9223372036854775808"}
	between := []string{" ", "\n", "\t", "\r\n", "//", "// x\n", "//=/\n\n", " "}
	faults := []string{"#", "&", "|", "05", "9223372036854775809", "_a", "B", "\xff", "\x00", "aaaaaaaaaaaaaaaaa", "\u00e9"}
	switch r.Intn(8) {
	case 0:
		return words[r.Intn(len(words))]
	case 1:
		return []string{"a", "b_1", "x9", "in", "if_", "aaaaaaaaaaaaaaaa"}[r.Intn(6)]
	case 2:
		return numbers[r.Intn(len(numbers))]
	case 3:
		return signs[r.Intn(len(signs))]
	case 4:
		return pairs[r.Intn(len(pairs))]
	case 5:
		if r.Intn(20) == 0 {
			return faults[r.Intn(len(faults))]
		}
	}
	return between[r.Intn(len(between))]
}

// texts are texts of pieces, always the same ones.
func texts(n int) []string {
	r := rand.New(rand.NewSource(2))
	l := make([]string, n)
	for i := range l {
		for range r.Intn(30) {
			l[i] += piece(r)
		}
	}
	return l
}

func TestTextsOfPieces(t *testing.T) {
	for _, text := range texts(5000) {
		testExpected(t, text)
	}
}

// later answers the tokens, so many lines further on.
func later(l []api.Token, lines int) []api.Token {
	l = slices.Clone(l)
	for i := range l {
		l[i].Line += lines
	}
	return l
}

// TestTwoTexts holds the first half of P2.3, and that of the two the first fault is told.
func TestTwoTexts(t *testing.T) {
	all := texts(1500)
	for i, a := range all {
		b := all[len(all)-1-i]
		first, line, e := lex.Tokens(a)
		lines := strings.Count(a, "\n") + 1
		if e != api.OK {
			testFault(t, a+"\n"+b, line, e)
			continue
		}
		second, line, e := lex.Tokens(b)
		if e != api.OK {
			testFault(t, a+"\n"+b, line+lines, e)
			continue
		}
		testTokens(t, a+"\n"+b, append(first, later(second, lines)...)...)
	}
}

// TestBlanksBetween holds the second half of P2.3.
func TestBlanksBetween(t *testing.T) {
	for _, text := range texts(1500) {
		l, _, _ := lex.Tokens(text)
		for _, blank := range []string{" ", "\t", "\r", "\n"} {
			var parts []string
			want := slices.Clone(l)
			for i, k := range l {
				parts = append(parts, k.Text)
				want[i].Line = strings.Count(blank, "\n") * i
			}
			testTokens(t, strings.Join(parts, blank), want...)
		}
	}
}

// TestAnswersAreNew holds that what is done to one answer is not seen in the next.
func TestAnswersAreNew(t *testing.T) {
	text := "shared n int; // n\nthread { print 5; }"
	first, _, _ := lex.Tokens(text)
	want := slices.Clone(first)
	clear(first[:cap(first)])
	testTokens(t, text, want...)
	left, _, _ := lex.Tokens(text)
	right, _, _ := lex.Tokens(text)
	_ = append(left, name("left", 0))
	clear(left)
	if !slices.Equal(right, want) {
		t.Errorf("one answer changed another: %v", right)
	}
}
