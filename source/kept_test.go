package source_test

import (
	"reflect"
	"slices"
	"sync"
	"testing"

	"turnstile/api"
)

// remade is a copy with all lists made anew by a function, those within them ahead of it.
func remade(v reflect.Value, list func(reflect.Value) reflect.Value) reflect.Value {
	next := reflect.New(v.Type()).Elem()
	next.Set(v)
	switch v.Kind() {
	case reflect.Struct:
		for i := range v.NumField() {
			next.Field(i).Set(remade(v.Field(i), list))
		}
	case reflect.Slice:
		next = reflect.MakeSlice(v.Type(), v.Len(), v.Len())
		for i := range v.Len() {
			next.Index(i).Set(remade(v.Index(i), list))
		}
		next = list(next)
	}
	return next
}

func remadeProgram(p api.Program, list func(reflect.Value) reflect.Value) api.Program {
	return remade(reflect.ValueOf(p), list).Interface().(api.Program)
}

// roomy is a copy whose lists have spare room with something in it: their first element once more, or a zero one.
func roomy(p api.Program) api.Program {
	return remadeProgram(p, func(l reflect.Value) reflect.Value {
		one := reflect.Zero(l.Type().Elem())
		if l.Len() > 0 {
			one = l.Index(0)
		}
		return reflect.Append(l, one, one).Slice(0, l.Len())
	})
}

// withRoom is a copy of all that there is in memory, spare room as a part of the lists.
func withRoom(v reflect.Value) reflect.Value {
	if v.Kind() == reflect.Slice {
		v = v.Slice(0, v.Cap())
	}
	next := reflect.New(v.Type()).Elem()
	next.Set(v)
	switch v.Kind() {
	case reflect.Struct:
		for i := range v.NumField() {
			next.Field(i).Set(withRoom(v.Field(i)))
		}
	case reflect.Slice:
		next = reflect.MakeSlice(v.Type(), v.Len(), v.Len())
		for i := range v.Len() {
			next.Index(i).Set(withRoom(v.Index(i)))
		}
	}
	return next
}

// someTexts are programs of all sorts: right ones and wrong ones.
func someTexts() []string {
	return []string{
		"", "thread { }", "thread { print 1; print 2; }", "thread { print x; }", "shared n int; thread { n = 1; }", "func f() { f(); }", "thread { print 1; } thread { print 2; atomic { print 3; print 4; } print 1 / 0; }",
		"shared n int; thread { while 1 { atomic { n = n + 1; print n; } } } thread { atomic { n = n * 2; print n; } }", things, things + "thread { atomic { begin(); } atomic { print g.x; g.x = 3; e[0] = g.x; print e[0] + three(1, 2, say(3)); } } thread { atomic { print log; if g != nil { print g.x; g.n.x = 1; } } }",
		things + "thread { atomic { begin(); print 1; fail(0); } } thread { atomic { print g.x; } }", things + "func last(a int) { while a { if a == 2 { print a; } else { atomic { print a; } } a = a - 1; } } thread { last(3); last(2); } thread { last(5); }",
	}
}

func somePicks() []int { return []int{0, 1, 0, 0, 1, -1, 1, 0, 2, 0, 1, 1, 0, 0, 1, 7, 0, 1} }

// TestGivenIsKept holds that what is handed in is not changed, its spare room neither.
func TestGivenIsKept(t *testing.T) {
	for _, text := range someTexts() {
		p := roomy(parsed(t, text))
		picks := append(somePicks(), 5, 6)[:len(somePicks())]
		before, picksBefore := withRoom(reflect.ValueOf(p)).Interface(), slices.Clone(picks[:cap(picks)])
		for _, fuel := range []int{0, 1, 30, plenty} {
			run(p, picks, fuel)
			if after := withRoom(reflect.ValueOf(p)).Interface(); !reflect.DeepEqual(before, after) {
				t.Errorf("%s has become %v", text, after)
			}
			if after := picks[:cap(picks)]; !slices.Equal(after, picksBefore) {
				t.Errorf("%s: the picks have become %v", text, after)
			}
		}
	}
}

// TestEmptyListsAreNone holds that empty lists and nil ones mean the same, and that spare room means nothing.
func TestEmptyListsAreNone(t *testing.T) {
	for _, text := range someTexts() {
		p := parsed(t, text)
		empty := remadeProgram(p, func(l reflect.Value) reflect.Value { return l })
		none := remadeProgram(p, func(l reflect.Value) reflect.Value {
			if l.Len() == 0 {
				return reflect.Zero(l.Type())
			}
			return l
		})
		for _, q := range []api.Program{empty, none, roomy(p)} {
			for _, fuel := range []int{0, 1, 30, plenty} {
				testTree(t, text, q, somePicks(), fuel, run(p, somePicks(), fuel).String())
				testTree(t, text, q, []int{}, fuel, run(p, nil, fuel).String())
			}
		}
	}
}

// TestAnswersAreNew holds that an answer shares no memory with another one, spare room neither, nor do two lists of one answer.
func TestAnswersAreNew(t *testing.T) {
	for _, text := range someTexts() {
		p := parsed(t, text)
		for _, fuel := range []int{plenty, 40} {
			one, other := run(p, somePicks(), fuel), run(p, somePicks(), fuel)
			told := other.String()
			for i := range one.seen {
				all := one.seen[i].Out[:cap(one.seen[i].Out)]
				kept := slices.Clone(all)
				for j := range all {
					all[j] = -99
				}
				for j, s := range one.seen {
					if j != i && slices.Contains(s.Out[:cap(s.Out)], -99) {
						t.Errorf("%s: what the threads %d and %d have told is in one place", text, i, j)
					}
				}
				copy(all, kept)
			}
			if one.String() != told {
				t.Errorf("%s: %v, not %s", text, one, told)
			}
			for _, s := range one.seen {
				clear(s.Out[:cap(s.Out)])
			}
			clear(one.seen[:cap(one.seen)])
			if other.String() != told {
				t.Errorf("%s: %s has become %v", text, told, other)
			}
			testTree(t, text, p, somePicks(), fuel, told)
		}
	}
}

// TestCallsAreAlone holds that no call makes a difference to another one, nor to what another one has answered.
func TestCallsAreAlone(t *testing.T) {
	texts := someTexts()
	var first []answer
	var told []string
	for _, text := range texts {
		a := run(parsed(t, text), somePicks(), 200)
		first, told = append(first, a), append(told, a.String())
	}
	for i := range texts {
		for j := range texts {
			run(parsed(t, texts[i]), somePicks(), 50)
			testTree(t, texts[j], parsed(t, texts[j]), somePicks(), 200, told[j])
		}
	}
	for i, a := range first {
		if a.String() != told[i] {
			t.Errorf("%s: the answer has become %v", texts[i], a)
		}
	}
	// The same memory, with something else in it.
	p := read(t, "thread { print 1; print 2; }")
	testTree(t, "ahead", p, []int{0, 0}, plenty, "1 2 ..")
	p.Threads[0][1].X.N = 5
	testTree(t, "behind", p, []int{0, 0}, plenty, "1 5 ..")
}

// TestCallsAtOneTime holds that calls of one program may be made at one time.
func TestCallsAtOneTime(t *testing.T) {
	var all sync.WaitGroup
	for _, text := range someTexts() {
		p := parsed(t, text)
		want := run(p, somePicks(), 300).String()
		for range 8 {
			all.Go(func() {
				for range 20 {
					if got := run(p, somePicks(), 300).String(); got != want {
						t.Errorf("%s: %s, not %s", text, got, want)
					}
				}
			})
		}
	}
	all.Wait()
}
