package shape_test

import (
	"reflect"
	"sync"
	"testing"

	"turnstile/api"
)

// remade is a copy with all lists made anew by a function, those within them ahead of it.
func remade(v reflect.Value, list func(reflect.Value) reflect.Value) reflect.Value {
	next := reflect.New(v.Type()).Elem()
	next.Set(v)
	switch v.Kind() {
	case reflect.Struct:
		for i := range v.NumField() {
			next.Field(i).Set(remade(v.Field(i), list))
		}
	case reflect.Slice:
		next = reflect.MakeSlice(v.Type(), v.Len(), v.Len())
		for i := range v.Len() {
			next.Index(i).Set(remade(v.Index(i), list))
		}
		next = list(next)
	}
	return next
}

func remadeProgram(p api.Program, list func(reflect.Value) reflect.Value) api.Program {
	return remade(reflect.ValueOf(p), list).Interface().(api.Program)
}

// roomy is a copy whose lists have spare room with something in it: their first element once more, or a zero one.
func roomy(p api.Program) api.Program {
	return remadeProgram(p, func(l reflect.Value) reflect.Value {
		one := reflect.Zero(l.Type().Elem())
		if l.Len() > 0 {
			one = l.Index(0)
		}
		return reflect.Append(l, one, one).Slice(0, l.Len())
	})
}

// withRoom is a copy of all that there is in memory, spare room as a part of the lists.
func withRoom(v reflect.Value) reflect.Value {
	if v.Kind() == reflect.Slice {
		v = v.Slice(0, v.Cap())
	}
	next := reflect.New(v.Type()).Elem()
	next.Set(v)
	switch v.Kind() {
	case reflect.Struct:
		for i := range v.NumField() {
			next.Field(i).Set(withRoom(v.Field(i)))
		}
	case reflect.Slice:
		next = reflect.MakeSlice(v.Type(), v.Len(), v.Len())
		for i := range v.Len() {
			next.Index(i).Set(withRoom(v.Index(i)))
		}
	}
	return next
}

// someTexts are programs of all sorts: such as types takes, and such as it refuses.
func someTexts() []string {
	return []string{
		wholeText, wholeText + "thread { print w; }", twoRecords, twoRecords + "record r { x int; }", fits, fits + "shared w int;", fits + "shared r int;", fits + "record w { x int; w int; }", "record r { y int; x int; } shared r1 int; shared s [2]r;", "shared a int; shared s int;", "record r { w int; y int; }",
		"", "thread { }", "thread { var s int; s = 1; }", "shared s r;", "func s() { }",
	}
}

// TestGivenIsKept holds that what is handed in is not changed, its spare room neither.
func TestGivenIsKept(t *testing.T) {
	for _, text := range someTexts() {
		p := roomy(read(t, text))
		before := withRoom(reflect.ValueOf(p)).Interface()
		for _, a := range someAsks() {
			a.of(p)
			if after := withRoom(reflect.ValueOf(p)).Interface(); !reflect.DeepEqual(before, after) {
				t.Fatalf("%v: %s has become %v", a, text, after)
			}
		}
	}
}

// TestEmptyListsAreNone holds that empty lists and nil ones mean the same, and that spare room means nothing.
func TestEmptyListsAreNone(t *testing.T) {
	for _, text := range someTexts() {
		p := read(t, text)
		empty := remadeProgram(p, func(l reflect.Value) reflect.Value { return l })
		none := remadeProgram(p, func(l reflect.Value) reflect.Value {
			if l.Len() == 0 {
				return reflect.Zero(l.Type())
			}
			return l
		})
		for _, q := range []api.Program{empty, none, roomy(p)} {
			for _, a := range someAsks() {
				a.test(t, text, q, a.answers(p))
			}
		}
	}
}

// TestCallsAreAlone holds that no call makes a difference to another one, of the same program or of another.
func TestCallsAreAlone(t *testing.T) {
	texts := someTexts()
	for _, ahead := range texts {
		for _, text := range texts {
			p, q := read(t, ahead), read(t, text)
			for i, a := range someAsks() {
				someAsks()[len(someAsks())-1-i].of(p)
				a.test(t, text, q, a.answers(q))
			}
		}
	}
	// The same memory, with something else in it.
	p := readTaken(t, fits)
	offset("r", "y").test(t, fits, p, is(1))
	p.Records[0].Fields[1].Name = "w"
	p.Shared[0].Name = "w"
	offset("r", "y").test(t, fits, p, no(api.ErrGone))
	offset("r", "w").test(t, fits, p, is(1))
	shared("s").test(t, fits, p, no(api.ErrGone))
	shared("w").test(t, fits, p, is(1))
	p.Records[0].Name = "q"
	words().test(t, "a record whose field's type is gone", p, no(api.ErrArg))
}

// TestCallsAtOneTime holds that calls of one program may be made at one time.
func TestCallsAtOneTime(t *testing.T) {
	p := readTaken(t, wholeText)
	var all sync.WaitGroup
	for range 8 {
		all.Go(func() {
			for _, a := range asks([]string{"", "r", "q", "rr", "p", "x", "last", "w"}) {
				if got := a.of(p); got != a.answers(p) {
					t.Errorf("%v: %v", a, got)
				}
			}
		})
	}
	all.Wait()
}
