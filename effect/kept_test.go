package effect_test

import (
	"reflect"
	"slices"
	"testing"

	"turnstile/api"
	"turnstile/effect"
)

// remade is a copy with all lists made anew by a function, those within them ahead of it.
func remade(v reflect.Value, list func(reflect.Value) reflect.Value) reflect.Value {
	next := reflect.New(v.Type()).Elem()
	next.Set(v)
	switch v.Kind() {
	case reflect.Struct:
		for i := range v.NumField() {
			next.Field(i).Set(remade(v.Field(i), list))
		}
	case reflect.Slice:
		next = reflect.MakeSlice(v.Type(), v.Len(), v.Len())
		for i := range v.Len() {
			next.Index(i).Set(remade(v.Index(i), list))
		}
		next = list(next)
	}
	return next
}

func remadeProgram(p api.Program, list func(reflect.Value) reflect.Value) api.Program {
	return remade(reflect.ValueOf(p), list).Interface().(api.Program)
}

// roomy is a copy whose lists have spare room with something in it: their first element once more, or a zero one.
func roomy(p api.Program) api.Program {
	return remadeProgram(p, func(l reflect.Value) reflect.Value {
		one := reflect.Zero(l.Type().Elem())
		if l.Len() > 0 {
			one = l.Index(0)
		}
		return reflect.Append(l, one, one).Slice(0, l.Len())
	})
}

// withRoom is a copy of all that there is in memory, spare room as a part of the lists.
func withRoom(v reflect.Value) reflect.Value {
	if v.Kind() == reflect.Slice {
		v = v.Slice(0, v.Cap())
	}
	next := reflect.New(v.Type()).Elem()
	next.Set(v)
	switch v.Kind() {
	case reflect.Struct:
		for i := range v.NumField() {
			next.Field(i).Set(withRoom(v.Field(i)))
		}
	case reflect.Slice:
		next = reflect.MakeSlice(v.Type(), v.Len(), v.Len())
		for i := range v.Len() {
			next.Index(i).Set(withRoom(v.Index(i)))
		}
	}
	return next
}

// someTexts are programs of all sorts: right ones and wrong ones.
func someTexts() []string {
	return []string{
		wholeText, wholeText + "thread { s = 1; }", wholeText + "thread { atomic { if s { return; } } }", things, things + "func last() { last(); }", things + "func last() { touch(); atomic { } }", things + "func last() int { tells(1); }", things + "thread { print w; }",
		"", "thread { }", "func f() { }", "func f() { g(); } func g() { f(); }", "func f() int { print 1; }", "thread { return; }", "func f() { print 1; } thread { atomic { f(); } f(); }", "shared s int; func f() int { return s; } func g() { print f(); } thread { atomic { g(); } }",
	}
}

type answer struct {
	place int
	e     api.Errno
	does  []api.Effect
	ofs   api.Errno
}

func answerOf(p api.Program) (a answer) {
	a.place, a.e = effect.Check(p)
	a.does, a.ofs = effect.Of(p)
	return a
}

func (a answer) same(b answer) bool {
	return a.place == b.place && a.e == b.e && a.ofs == b.ofs && slices.Equal(a.does, b.does)
}

// TestGivenIsKept holds that what is handed in is not changed, its spare room neither.
func TestGivenIsKept(t *testing.T) {
	for _, text := range someTexts() {
		p, _ := read(t, text)
		p = roomy(p)
		before := withRoom(reflect.ValueOf(p)).Interface()
		answerOf(p)
		if after := withRoom(reflect.ValueOf(p)).Interface(); !reflect.DeepEqual(before, after) {
			t.Errorf("%s has become %v", text, after)
		}
	}
}

// TestEmptyListsAreNone holds that empty lists and nil ones mean the same, and that spare room means nothing.
func TestEmptyListsAreNone(t *testing.T) {
	for _, text := range someTexts() {
		p, _ := read(t, text)
		empty := remadeProgram(p, func(l reflect.Value) reflect.Value { return l })
		none := remadeProgram(p, func(l reflect.Value) reflect.Value {
			if l.Len() == 0 {
				return reflect.Zero(l.Type())
			}
			return l
		})
		want := answerOf(p)
		for _, q := range []api.Program{empty, none, roomy(p)} {
			if got := answerOf(q); !got.same(want) {
				t.Errorf("%s: %v, not %v", text, got, want)
			}
		}
	}
}

// TestCallsAreAlone holds that no call makes a difference to another one, nor to what another one has answered.
func TestCallsAreAlone(t *testing.T) {
	texts := someTexts()
	first := make([]answer, len(texts))
	for i, text := range texts {
		p, _ := read(t, text)
		first[i] = answerOf(p)
	}
	kept := make([][]api.Effect, len(texts))
	for i, a := range first {
		kept[i] = slices.Clone(a.does)
	}
	for i := range texts {
		for j := range texts {
			p, _ := read(t, texts[i])
			q, _ := read(t, texts[j])
			answerOf(p)
			if got := answerOf(q); !got.same(first[j]) {
				t.Errorf("%s: %v, not %v", texts[j], got, first[j])
			}
		}
	}
	for i, a := range first {
		if !slices.Equal(a.does, kept[i]) {
			t.Errorf("%s: the answer has become %v", texts[i], a.does)
		}
	}
}

// TestDocument holds the chapter's examples.
func TestDocument(t *testing.T) {
	const e, r = api.ErrEffect, api.ErrRing
	for _, row := range []struct {
		text string
		want answer
	}{
		{"shared n int; thread { n = 1; }", answer{place: 2, e: e}},
		{"shared n int; thread { print n; }", answer{place: 2, e: e}},
		{"shared n int; func f() { n = 1; } thread { atomic { f(); } }", answer{does: []api.Effect{1}}},
		{"shared n int; func f() { n = 1; } thread { f(); }", answer{place: 4, e: e}},
		{"func f() { atomic { } } thread { f(); }", answer{does: []api.Effect{6}}},
		{"func f() { atomic { } } thread { atomic { f(); } }", answer{place: 4, e: e}},
		{"thread { atomic { atomic { } } }", answer{place: 2, e: e}},
		{"func f(x int) int { return f(x); }", answer{place: 0, e: r}},
		{"func f() { g(); } func g() { f(); }", answer{place: 0, e: r}},
		{"func f() int { print 1; return 1; }", answer{place: 0, e: e}},
		{"thread { return; }", answer{place: 1, e: e}},
		{"func f() { atomic { return; } }", answer{place: 2, e: e}},
		{"record r { x int; } func f(a r) int { return a.x; } thread { atomic { print f(new r); } }", answer{does: []api.Effect{1}}},
		{"shared n int; func f() { n = 1; atomic { n = 2; } }", answer{place: 3, e: e}},
	} {
		p, _ := read(t, row.text)
		row.want.ofs = row.want.e
		if got := answerOf(p); !got.same(row.want) {
			t.Errorf("%s: %v, not %v", row.text, got, row.want)
		}
	}
}
