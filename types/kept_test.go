package types_test

import (
	"reflect"
	"testing"

	"turnstile/api"
	"turnstile/show"
	"turnstile/types"
)

// remade is a copy with all lists made anew by a function, those within them ahead of it.
func remade(v reflect.Value, list func(reflect.Value) reflect.Value) reflect.Value {
	next := reflect.New(v.Type()).Elem()
	next.Set(v)
	switch v.Kind() {
	case reflect.Struct:
		for i := range v.NumField() {
			next.Field(i).Set(remade(v.Field(i), list))
		}
	case reflect.Slice:
		next = reflect.MakeSlice(v.Type(), v.Len(), v.Len())
		for i := range v.Len() {
			next.Index(i).Set(remade(v.Index(i), list))
		}
		next = list(next)
	}
	return next
}

func remadeProgram(p api.Program, list func(reflect.Value) reflect.Value) api.Program {
	return remade(reflect.ValueOf(p), list).Interface().(api.Program)
}

// roomy is a copy whose lists have spare room with something in it: their first element once more, or a zero one.
func roomy(p api.Program) api.Program {
	return remadeProgram(p, func(l reflect.Value) reflect.Value {
		one := reflect.Zero(l.Type().Elem())
		if l.Len() > 0 {
			one = l.Index(0)
		}
		return reflect.Append(l, one, one).Slice(0, l.Len())
	})
}

// withRoom is a copy of all that there is in memory, spare room as a part of the lists.
func withRoom(v reflect.Value) reflect.Value {
	if v.Kind() == reflect.Slice {
		v = v.Slice(0, v.Cap())
	}
	next := reflect.New(v.Type()).Elem()
	next.Set(v)
	switch v.Kind() {
	case reflect.Struct:
		for i := range v.NumField() {
			next.Field(i).Set(withRoom(v.Field(i)))
		}
	case reflect.Slice:
		next = reflect.MakeSlice(v.Type(), v.Len(), v.Len())
		for i := range v.Len() {
			next.Index(i).Set(withRoom(v.Index(i)))
		}
	}
	return next
}

// someTexts are programs of all sorts: right ones and wrong ones.
func someTexts() []string {
	return []string{
		wholeText, wholeText + "thread { var x int; while x { print y; } }", wholeText + "func more(a int, b r) { var c int = b; }", wholeText + "shared more w;", wholeText + "record r { x int; }", "thread { }", "",
		"thread { print w; }", "thread { print nil; }", "func f() { f(1); } thread { f(); }", "func f(x int) { var x int; }",
	}
}

// TestGivenIsKept holds that what is handed in is not changed, its spare room neither.
func TestGivenIsKept(t *testing.T) {
	for _, text := range someTexts() {
		p, _ := read(t, text)
		p = roomy(p)
		before := withRoom(reflect.ValueOf(p)).Interface()
		types.Check(p)
		types.Places(p)
		if after := withRoom(reflect.ValueOf(p)).Interface(); !reflect.DeepEqual(before, after) {
			t.Errorf("%s has become %v", text, after)
		}
	}
}

// TestEmptyListsAreNone holds that empty lists and nil ones mean the same, and that spare room means nothing.
func TestEmptyListsAreNone(t *testing.T) {
	for _, text := range someTexts() {
		p, _ := read(t, text)
		place, e := types.Check(p)
		empty := remadeProgram(p, func(l reflect.Value) reflect.Value { return l })
		none := remadeProgram(p, func(l reflect.Value) reflect.Value {
			if l.Len() == 0 {
				return reflect.Zero(l.Type())
			}
			return l
		})
		for _, q := range []api.Program{empty, none, roomy(p)} {
			if show.Check(q) != api.OK {
				t.Errorf("%s: show finds something", text)
			}
			testTree(t, text, q, place, e)
			testPlaces(t, text, q, types.Places(p))
		}
	}
}

// TestCallsAreAlone holds that no call makes a difference to another one.
func TestCallsAreAlone(t *testing.T) {
	type answer struct {
		place int
		e     api.Errno
	}
	texts := someTexts()
	first := make([]answer, len(texts))
	for i, text := range texts {
		p, _ := read(t, text)
		first[i].place, first[i].e = types.Check(p)
	}
	for i := range texts {
		for j := range texts {
			p, _ := read(t, texts[i])
			q, _ := read(t, texts[j])
			types.Check(p)
			testTree(t, texts[j], q, first[j].place, first[j].e)
		}
	}
}
