package parse_test

import (
	"math/rand"
	"reflect"
	"slices"
	"strings"
	"testing"

	"turnstile/api"
	"turnstile/lex"
	"turnstile/parse"
	"turnstile/show"
	"turnstile/types"
)

func newPen(seed int64) *pen { return &pen{Rand: rand.New(rand.NewSource(seed))} }

// testBack holds that a tree's own text is taken as that tree, and told as that text again.
func testBack(t *testing.T, p api.Program) {
	t.Helper()
	s, e := show.Program(p)
	if e == api.ErrLimit && show.Items(p) > 800 {
		return
	}
	q, lines, line, e2 := parse.Program(s)
	if e != api.OK || e2 != api.OK || line != 0 || !reflect.DeepEqual(p, q) {
		t.Fatalf("%v is told as\n%s\nwith the error %d, which is %v with the error %d at %d", p, s, e, q, e2, line)
	}
	if !slices.Equal(lines, toldLines(s)) || len(lines) != types.Places(p) {
		t.Fatalf("%s has its %d places at %v, not %v", s, types.Places(p), lines, toldLines(s))
	}
	if again, _ := show.Program(q); again != s {
		t.Fatalf("%s is told as %s", s, again)
	}
}

// toldLines are the lines of a text that show tells at which places begin: it tells each on a line of its own, in order.
func toldLines(text string) (l []int) {
	record := false
	for n, s := range strings.Split(strings.TrimSuffix(text, "\n"), "\n") {
		first, _, _ := strings.Cut(strings.TrimSpace(s), " ")
		if first != "}" && first != "" && !record {
			l = append(l, n)
		}
		record = first == "record" || record && first != "}"
	}
	return l
}

// TestTextsByChance holds trees and lines of texts that show would not have told, and that their trees come back.
func TestTextsByChance(t *testing.T) {
	things, greatest := 0, 0
	for seed := range int64(2500) {
		p := newPen(seed)
		want := p.program()
		text := p.text.String()
		if len(text) > api.MaxText || show.Check(want) != api.OK {
			continue
		}
		testTree(t, text, want, slices.Concat(p.marks[:]...)...)
		testBack(t, want)
		things += len(want.Records) + len(want.Shared) + len(want.Funcs) + len(want.Threads)
		greatest = max(greatest, show.Items(want))
		if t.Failed() {
			t.Fatalf("the seed %d", seed)
		}
	}
	if things < 5000 || greatest < 500 {
		t.Errorf("%d things, at most %d items", things, greatest)
	}
}

func TestExpressionsByChance(t *testing.T) {
	for seed := range int64(5000) {
		p := newPen(seed)
		want := p.expr(1+p.Intn(16), 0, false)
		text := p.text.String()
		if x, e := parse.Expr(text); e != api.OK || !reflect.DeepEqual(x, want) {
			t.Fatalf("%s is %v with the error %d, not %v", text, x, e, want)
		}
		s, _ := show.Expr(want)
		if x, e := parse.Expr(s); e != api.OK || !reflect.DeepEqual(x, want) {
			t.Fatalf("%s is %v with the error %d, not %v", s, x, e, want)
		}
	}
}

// TestTreesComeBack holds trees that were made by hand: each kind of expression and of statement, within each other.
func TestTreesComeBack(t *testing.T) {
	testBack(t, wholeTree())
	leaves := []api.Expr{number(5), number(-5), number(least), null, a, made(ref), made(wholes), call("f")}
	small := leaves
	for range 2 {
		var next []api.Expr
		for _, x := range small {
			next = append(next, dot(x, "f"), of(api.ExNeg, x), of(api.ExNot, x), call("f", x, a), of(api.ExIndex, x, a), of(api.ExIndex, a, x), of(api.ExSub, x, x), of(api.ExMul, x, a), of(api.ExLt, a, x), of(api.ExOr, x, b))
		}
		small = append(next, leaves...)
	}
	var bodies [][]api.Stmt
	for _, x := range small {
		body := []api.Stmt{variable("x", refs, x), set(of(api.ExIndex, x, x), x), stmt(api.StPrint, x), stmt(api.StReturn, x), stmt(api.StCall, call("f", x))}
		testBack(t, thread(body...))
		bodies = append(bodies, body)
	}
	for i, body := range bodies {
		both := stmt(api.StIf, a, body...)
		both.Else = bodies[(i+1)%len(bodies)]
		only := stmt(api.StIf, a)
		only.Else = body
		list := []api.Stmt{stmt(api.StAtomic, none, both), stmt(api.StWhile, b, only, stmt(api.StIf, c)), stmt(api.StReturn, none), variable("a", whole, none)}
		testBack(t, api.Program{Funcs: []api.Func{{Name: "f", Body: list}, {Name: "g", Result: refs}}, Threads: [][]api.Stmt{list, nil, {stmt(api.StAtomic, none)}}})
	}
}

// TestGaps lays all that says nothing between the tokens of a text.
func TestGaps(t *testing.T) {
	text, _ := show.Program(wholeTree())
	l, _, _ := lex.Tokens(text)
	var tokens []string
	var at []int
	told := toldLines(text)
	for n, k := range l {
		tokens = append(tokens, k.Text)
		if len(at) < len(told) && k.Line == told[len(at)] {
			at = append(at, n)
		}
	}
	for _, gap := range []string{" ", "\t", "\r", "\n", " \n", " // ;\n", " //\n", "\n// }\n\n", "\r\n\t // \x00 \xff é \" /* \n"} {
		var want []int
		for _, n := range at {
			want = append(want, (n+1)*strings.Count(gap, "\n"))
		}
		testTree(t, gap+strings.Join(tokens, gap)+gap, wholeTree(), want...)
	}
	testTree(t, "thread{if a{print-5;}else{b=(c);}}", thread(api.Stmt{Kind: api.StIf, X: a, Body: []api.Stmt{stmt(api.StPrint, number(-5))}, Else: []api.Stmt{set(b, c)}}), 0, 0, 0, 0)
}
