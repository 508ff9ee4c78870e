package lower_test

import (
	"reflect"
	"slices"
	"sync"
	"testing"

	"turnstile/api"
	"turnstile/lower"
)

// remade is a copy with all lists made anew by a function, those within them ahead of it.
func remade(v reflect.Value, list func(reflect.Value) reflect.Value) reflect.Value {
	next := reflect.New(v.Type()).Elem()
	next.Set(v)
	switch v.Kind() {
	case reflect.Struct:
		for i := range v.NumField() {
			next.Field(i).Set(remade(v.Field(i), list))
		}
	case reflect.Slice:
		next = reflect.MakeSlice(v.Type(), v.Len(), v.Len())
		for i := range v.Len() {
			next.Index(i).Set(remade(v.Index(i), list))
		}
		next = list(next)
	}
	return next
}

func remadeProgram(p api.Program, list func(reflect.Value) reflect.Value) api.Program {
	return remade(reflect.ValueOf(p), list).Interface().(api.Program)
}

// roomy is a copy whose lists have spare room with something in it: their first element once more, or a zero one.
func roomy(p api.Program) api.Program {
	return remadeProgram(p, func(l reflect.Value) reflect.Value {
		one := reflect.Zero(l.Type().Elem())
		if l.Len() > 0 {
			one = l.Index(0)
		}
		return reflect.Append(l, one, one).Slice(0, l.Len())
	})
}

// withRoom is a copy of all that there is in memory, spare room as a part of the lists.
func withRoom(v reflect.Value) reflect.Value {
	if v.Kind() == reflect.Slice {
		v = v.Slice(0, v.Cap())
	}
	next := reflect.New(v.Type()).Elem()
	next.Set(v)
	switch v.Kind() {
	case reflect.Struct:
		for i := range v.NumField() {
			next.Field(i).Set(withRoom(v.Field(i)))
		}
	case reflect.Slice:
		next = reflect.MakeSlice(v.Type(), v.Len(), v.Len())
		for i := range v.Len() {
			next.Index(i).Set(withRoom(v.Index(i)))
		}
	}
	return next
}

// someTexts are programs of all sorts: right ones, wrong ones, one that is too great.
func someTexts() []string {
	return []string{
		"", "thread { }", "thread { print 1; print 2; }", "thread { print x; }", "shared n int; thread { n = 1; }", "func f() { f(); }", doubling(32) + "thread { f0(); }", doubling(5) + "thread { f0(); f1(); } thread { f0(); }", "thread { print 1; } thread { print 2; atomic { print 3; print 4; } print 1 / 0; }",
		"shared n int; thread { while 1 { atomic { n = n + 1; print n; } } } thread { atomic { n = n * 2; print n; } }", things, things + "thread { atomic { begin(); } atomic { print g.x; g.x = 3; e[0] = g.x; print e[0] + three(1, 2, say(3)); } } thread { atomic { print log; if g != nil { print g.x; g.n.x = 1; } } }",
		things + "thread { atomic { begin(); print 1; fail(0); } } thread { atomic { print g.x; } }", things + "func last(a int) { while a { if a == 2 { print a; return; } else { atomic { print a; } } a = a - 1; } } thread { last(3); last(2); } thread { last(5); } thread { } thread { last(1); }",
	}
}

// answer is what Lower answers.
type answer struct {
	c api.Code
	e api.Errno
}

func answerOf(p api.Program) (a answer) {
	a.c, a.e = lower.Lower(p)
	return a
}

// same says whether two answers are; empty lists and nil ones are.
func (a answer) same(b answer) bool {
	bare := func(c api.Code) any {
		return remade(reflect.ValueOf(c), func(l reflect.Value) reflect.Value {
			if l.Len() == 0 {
				return reflect.Zero(l.Type())
			}
			return l
		}).Interface()
	}
	return a.e == b.e && reflect.DeepEqual(bare(a.c), bare(b.c))
}

func testAnswer(t *testing.T, what string, p api.Program, want answer) {
	t.Helper()
	if got := answerOf(p); !got.same(want) {
		t.Errorf("%s: %s, not %s", tail(what), head(got), head(want))
	}
}

// copied is an answer in memory of its own.
func (a answer) copied() answer {
	return answer{remade(reflect.ValueOf(a.c), func(l reflect.Value) reflect.Value { return l }).Interface().(api.Code), a.e}
}

// TestGivenIsKept holds that what is handed in is not changed, its spare room neither. (R4)
func TestGivenIsKept(t *testing.T) {
	test := func(text string, p api.Program) {
		p = roomy(p)
		before := withRoom(reflect.ValueOf(p)).Interface()
		answerOf(p)
		if after := withRoom(reflect.ValueOf(p)).Interface(); !reflect.DeepEqual(before, after) {
			t.Errorf("%s has become %v", text, after)
		}
	}
	for _, text := range someTexts() {
		test(text, parsed(t, text))
	}
	// Each list with room makes three of those within it.
	each(t, 114, 20, func(_ *maker, text string, p api.Program) { test(text, p) })
}

// TestEmptyListsAreNone holds that empty lists and nil ones mean the same, and that spare room means nothing. (R4)
func TestEmptyListsAreNone(t *testing.T) {
	for _, text := range someTexts() {
		p := parsed(t, text)
		empty := remadeProgram(p, func(l reflect.Value) reflect.Value { return l })
		none := remadeProgram(p, func(l reflect.Value) reflect.Value {
			if l.Len() == 0 {
				return reflect.Zero(l.Type())
			}
			return l
		})
		for _, q := range []api.Program{empty, none, roomy(p)} {
			testAnswer(t, text, q, answerOf(p))
		}
	}
}

// lists are all lists of a value, those within lists too, each as the pieces of memory that it has, spare room too.
func lists(v reflect.Value) (l []reflect.Value) {
	switch v.Kind() {
	case reflect.Struct:
		for i := range v.NumField() {
			l = append(l, lists(v.Field(i))...)
		}
	case reflect.Slice:
		if v.Cap() > 0 {
			l = append(l, v.Slice(0, v.Cap()))
		}
		for i := range v.Len() {
			l = append(l, lists(v.Index(i))...)
		}
	}
	return l
}

// apart says whether no two of some lists have memory in common.
func apart(l []reflect.Value) bool {
	type span struct{ from, to uintptr }
	var spans []span
	for _, v := range l {
		from := v.Pointer()
		spans = append(spans, span{from, from + uintptr(v.Len())*v.Type().Elem().Size()})
	}
	slices.SortFunc(spans, func(a, b span) int {
		if a.from < b.from {
			return -1
		}
		return 1
	})
	for i := 1; i < len(spans); i++ {
		if spans[i].from < spans[i-1].to {
			return false
		}
	}
	return true
}

// TestAnswersAreNew holds that an answer shares no memory with what was handed in, with another answer, nor do two lists of one answer. (R4)
func TestAnswersAreNew(t *testing.T) {
	test := func(text string, p api.Program) {
		p = roomy(p)
		one, other := answerOf(p), answerOf(p)
		all := append(lists(reflect.ValueOf(one.c)), lists(reflect.ValueOf(other.c))...)
		if !apart(append(all, lists(reflect.ValueOf(p))...)) {
			t.Errorf("%s: two lists lie in one place", text)
		}
	}
	for _, text := range someTexts() {
		test(text, parsed(t, text))
	}
	each(t, 115, 200, func(_ *maker, text string, p api.Program) { test(text, p) })
}

// TestCallsAreAlone holds that no call makes a difference to another one, nor to what another one has answered: one program always becomes the same graphs. (P11.1, R4, R5)
func TestCallsAreAlone(t *testing.T) {
	texts := someTexts()
	var first, kept []answer
	for _, text := range texts {
		a := answerOf(parsed(t, text))
		first, kept = append(first, a), append(kept, a.copied())
		testAnswer(t, text, parsed(t, text), a)
	}
	for i := range texts {
		for j := range texts {
			answerOf(parsed(t, texts[i]))
			testAnswer(t, texts[j], parsed(t, texts[j]), kept[j])
		}
	}
	for i, a := range first {
		if !a.same(kept[i]) {
			t.Errorf("%s: the answer has become %s", texts[i], head(a))
		}
	}
	// What is done to an answer makes no difference to a later one.
	for i, a := range first {
		for _, l := range lists(reflect.ValueOf(a.c)) {
			for j := range l.Len() {
				l.Index(j).SetZero()
			}
		}
		testAnswer(t, texts[i], parsed(t, texts[i]), kept[i])
	}
	// The same memory, with something else in it.
	p := read(t, "thread { print 1; print 2; }")
	testSame(t, "ahead", p, lowered(t, "ahead", p), []int{0, 0})
	was := answerOf(p)
	p.Threads[0][1].X.N = 5
	if got := testSame(t, "behind", p, lowered(t, "behind", p), []int{0, 0}); got != "1 5 .." {
		t.Errorf("behind: %s", got)
	}
	if got := done(t, was.c, []int{0, 0}); got != "1 2 .." {
		t.Errorf("what was answered ahead: %s", got)
	}
}

// TestByChanceTwice holds that programs by chance become the same graphs each time, between others. (P11.1)
func TestByChanceTwice(t *testing.T) {
	var last api.Program
	var lastAnswer answer
	each(t, 113, 300, func(_ *maker, text string, p api.Program) {
		a := answerOf(p)
		testAnswer(t, "the program ahead of "+text, last, lastAnswer)
		testAnswer(t, text, remadeProgram(p, func(l reflect.Value) reflect.Value { return l }), a)
		last, lastAnswer = p, a
	})
}

// TestCallsAtOneTime holds that calls of one program may be made at one time. (R5)
func TestCallsAtOneTime(t *testing.T) {
	var all sync.WaitGroup
	for _, text := range someTexts() {
		p := parsed(t, text)
		want := answerOf(p)
		for range 8 {
			all.Go(func() {
				for range 10 {
					if got := answerOf(p); !got.same(want) {
						t.Errorf("%s: %s, not %s", text, head(got), head(want))
					}
				}
			})
		}
	}
	all.Wait()
}
