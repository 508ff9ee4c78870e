package parse_test

import (
	"cmp"
	"math/rand"
	"reflect"
	"slices"
	"strings"
	"testing"

	"turnstile/api"
	"turnstile/parse"
	"turnstile/types"
)

// span is where a list lies in memory, spare room too.
type span struct{ from, to uintptr }

// spans are those of all lists in a value.
func spans(v reflect.Value) (l []span) {
	switch v.Kind() {
	case reflect.Struct:
		for i := range v.NumField() {
			l = append(l, spans(v.Field(i))...)
		}
	case reflect.Slice:
		if v.Cap() > 0 {
			l = append(l, span{v.Pointer(), v.Pointer() + uintptr(v.Cap())*v.Type().Elem().Size()})
		}
		for i := range v.Len() {
			l = append(l, spans(v.Index(i))...)
		}
	}
	return l
}

// TestAnswersAreNewMemory holds that no two lists share any, of one answer or of two.
func TestAnswersAreNewMemory(t *testing.T) {
	p, lines, _, _ := parse.Program(wholeText)
	q, others, _, _ := parse.Program(wholeText)
	x, _ := parse.Expr("-f(a + b, !c.d, g())[1]")
	y, _ := parse.Expr("-f(a + b, !c.d, g())[1]")
	var l []span
	for _, v := range []any{p, lines, q, others, x, y} {
		l = append(l, spans(reflect.ValueOf(v))...)
	}
	slices.SortFunc(l, func(a, b span) int { return cmp.Compare(a.from, b.from) })
	for i := range len(l) - 1 {
		if l[i].to > l[i+1].from {
			t.Errorf("two lists share memory: %v, %v", l[i], l[i+1])
		}
	}
	if len(l) < 80 {
		t.Errorf("%d lists", len(l))
	}
	if !reflect.DeepEqual(p, q) || !slices.Equal(lines, others) || !reflect.DeepEqual(x, y) {
		t.Error("one text, two answers")
	}
}

// TestAnyText holds of all kinds of texts that each is answered, and with what.
func TestAnyText(t *testing.T) {
	chance := rand.New(rand.NewSource(5))
	var tokens []string
	for _, s := range sorts() {
		tokens = append(tokens, textOf(s), textOf(s)+" ", textOf(s)+"\n")
	}
	bytes := " \n\t\r/{}()[].,;=<>+-*/%!&|#_az059\x00\xff"
	var texts []string
	for range 20000 {
		var s strings.Builder
		for range chance.Intn(30) {
			s.WriteString(tokens[chance.Intn(len(tokens))])
		}
		texts = append(texts, s.String())
		s.Reset()
		for range chance.Intn(20) {
			s.WriteByte(bytes[chance.Intn(len(bytes))])
		}
		texts = append(texts, s.String())
		whole := []byte(wholeText)
		for range 1 + chance.Intn(3) {
			whole[chance.Intn(len(whole))] = bytes[chance.Intn(len(bytes))]
		}
		texts = append(texts, string(whole))
	}
	taken := 0
	for _, s := range texts {
		p, lines, line, e := parse.Program(s)
		if e == api.OK && line == 0 && len(lines) == types.Places(p) {
			taken++
			testBack(t, p)
		} else if e != api.ErrToken && e != api.ErrSyntax && e != api.ErrLimit || line < 0 || line > strings.Count(s, "\n") {
			t.Fatalf("%s: the error %d at %d, %d lines", short(s), e, line, len(lines))
		} else {
			testError(t, s, line, e)
		}
		if x, e := parse.Expr(s); e != api.OK {
			testExprError(t, s, e)
		} else if x.Kind == api.ExNone {
			t.Fatalf("%s is none", short(s))
		}
	}
	if taken < 2000 {
		t.Errorf("%d texts are taken", taken)
	}
}
