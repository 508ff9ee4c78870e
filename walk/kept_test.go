package walk_test

import (
	"reflect"
	"slices"
	"sync"
	"testing"
	"unsafe"

	"turnstile/api"
	"turnstile/walk"
)

// remade is a copy with all lists made anew by a function, those within them ahead of it.
func remade(v reflect.Value, list func(reflect.Value) reflect.Value) reflect.Value {
	next := reflect.New(v.Type()).Elem()
	next.Set(v)
	switch v.Kind() {
	case reflect.Struct:
		for i := range v.NumField() {
			next.Field(i).Set(remade(v.Field(i), list))
		}
	case reflect.Slice:
		next = reflect.MakeSlice(v.Type(), v.Len(), v.Len())
		for i := range v.Len() {
			next.Index(i).Set(remade(v.Index(i), list))
		}
		next = list(next)
	}
	return next
}

func remadeCode(c api.Code, list func(reflect.Value) reflect.Value) api.Code {
	return remade(reflect.ValueOf(c), list).Interface().(api.Code)
}

// copied is a copy that shares no memory with what it is a copy of; its lists are empty ones, where they have nothing.
func copied(c api.Code) api.Code {
	return remadeCode(c, func(l reflect.Value) reflect.Value { return l })
}

// withoutEmpty is a copy whose lists are nil, where they have nothing.
func withoutEmpty(c api.Code) api.Code {
	return remadeCode(c, func(l reflect.Value) reflect.Value {
		if l.Len() == 0 {
			return reflect.Zero(l.Type())
		}
		return l
	})
}

// roomy is a copy whose lists have spare room with something in it: their first element once more, or a zero one.
func roomy(c api.Code) api.Code {
	return remadeCode(c, func(l reflect.Value) reflect.Value {
		first := reflect.Zero(l.Type().Elem())
		if l.Len() > 0 {
			first = l.Index(0)
		}
		return reflect.Append(l, first, first).Slice(0, l.Len())
	})
}

// withRoom is a copy of all that there is in memory, spare room as a part of the lists.
func withRoom(v reflect.Value) reflect.Value {
	if v.Kind() == reflect.Slice {
		v = v.Slice(0, v.Cap())
	}
	next := reflect.New(v.Type()).Elem()
	next.Set(v)
	switch v.Kind() {
	case reflect.Struct:
		for i := range v.NumField() {
			next.Field(i).Set(withRoom(v.Field(i)))
		}
	case reflect.Slice:
		next = reflect.MakeSlice(v.Type(), v.Len(), v.Len())
		for i := range v.Len() {
			next.Index(i).Set(withRoom(v.Index(i)))
		}
	}
	return next
}

// given is what one run is given.
type given struct {
	api.Code
	picks []int
	fuel  int
}

func (g given) run() answer { return run(g.Code, g.picks, g.fuel) }

// someOfAll are runs of all sorts, and such as are refused.
func someOfAll(t *testing.T) (l []given) {
	for _, c := range wrongGraphs() {
		l = append(l, given{c, []int{0, 1}, 100})
	}
	one := read(t, 3, "begin/print r0/print r0/end/print r0/jump 0", lookWord, "begin/new r4 1 0/shared r5 1/store r4 r5 - 0/ownload r0 r5 - 0/nil r6/end/halt", "halt")
	for _, picks := range []string{"", "0", "0*9 1*9", "2 0 1 2 3 0 1 2 3", "0 1 2 3 1 1 1 1 -1 5"} {
		for _, fuel := range []int{0, 1, 4, 20, plenty, api.MaxFuel + 1} {
			l = append(l, given{api.Code{}, picked(t, picks), fuel}, given{api.Code{Words: 3}, picked(t, picks), fuel}, given{one, picked(t, picks), fuel})
		}
	}
	each(t, 103, 80, func(m maker, c api.Code) {
		c.Words = min(c.Words, 9)
		l = append(l, given{c, m.picks(len(c.Threads)), m.fuel()})
	})
	return l
}

// TestGivenIsKept holds that what is handed in is not changed, its spare room neither. (R4)
func TestGivenIsKept(t *testing.T) {
	for _, g := range someOfAll(t) {
		c := roomy(g.Code)
		picks := append(slices.Clone(g.picks), 1, 2, 3)
		before, picksBefore := withRoom(reflect.ValueOf(c)).Interface(), slices.Clone(picks)
		run(c, picks[:len(g.picks)], g.fuel)
		if after := withRoom(reflect.ValueOf(c)).Interface(); !reflect.DeepEqual(before, after) || !slices.Equal(picks, picksBefore) {
			t.Errorf("%+v and %v have become %+v and %v", before, picksBefore, after, picks)
		}
	}
}

// TestEmptyListsAreNone holds that empty lists and nil ones mean the same, and that spare room means nothing. (R4)
func TestEmptyListsAreNone(t *testing.T) {
	for _, g := range someOfAll(t) {
		want := g.run().String()
		for _, c := range []api.Code{copied(g.Code), withoutEmpty(g.Code), roomy(g.Code)} {
			testRun(t, textOf(c), c, g.picks, g.fuel, want)
			if len(g.picks) == 0 {
				testRun(t, textOf(c), c, []int{}, g.fuel, want)
				testRun(t, textOf(c), c, nil, g.fuel, want)
			}
		}
	}
}

// stretch is where a list lies, its spare room too.
type stretch struct{ from, to uintptr }

func stretchOf[T any](l []T) stretch {
	from := uintptr(unsafe.Pointer(unsafe.SliceData(l)))
	return stretch{from, from + uintptr(cap(l))*unsafe.Sizeof(*new(T))}
}

// TestAnswersAreNew holds that an answer shares no memory with what was handed in, with another answer, nor two of its lists with one another. (R4)
func TestAnswersAreNew(t *testing.T) {
	for _, g := range someOfAll(t) {
		one, other := g.run(), g.run()
		lists := []stretch{stretchOf(g.picks), stretchOf(g.Threads), stretchOf(one.Seen), stretchOf(other.Seen)}
		for _, a := range []answer{one, other} {
			for _, s := range a.Seen {
				lists = append(lists, stretchOf(s.Out))
			}
		}
		for n, a := range lists {
			for _, b := range lists[:n] {
				if a.from < b.to && b.from < a.to {
					t.Errorf("%s: two lists lie in one place", textOf(g.Code))
				}
			}
		}
		want := other.String()
		for n := range one.Seen {
			s := one.Seen[n]
			for k := range s.Out[:cap(s.Out)] {
				s.Out[:cap(s.Out)][k] = 77
			}
			one.Seen[n] = api.Seen{End: 99}
		}
		if got := other.String(); got != want {
			t.Errorf("%s: another answer has become %s", textOf(g.Code), got)
		}
		if got := g.run().String(); got != want {
			t.Errorf("%s: %s, not %s", textOf(g.Code), got, want)
		}
	}
}

// TestCallsAreAlone holds that no call makes a difference to another one. (R5)
func TestCallsAreAlone(t *testing.T) {
	l := someOfAll(t)
	var want []string
	for _, g := range l {
		want = append(want, g.run().String())
	}
	for n := range l {
		for k := n % 5; k < len(l); k += 5 {
			l[n].run()
			if got := l[k].run().String(); got != want[k] {
				t.Errorf("%s: %s, not %s", textOf(l[k].Code), got, want[k])
			}
		}
	}
	// The same memory, with something else in it.
	c := read(t, 3, "const r0 5/print r0/halt")
	picks := []int{0, 0}
	testRun(t, "ahead", c, picks, plenty, "5 done")
	c.Threads[0].Blocks[0].Ins[0].N = 6
	picks[1] = 1
	testRun(t, "behind", c, picks, plenty, "6 ..")
	c.Threads[0].Refs[0] = true
	testRun(t, "a reference", c, picks, plenty, "the error 14")
}

// TestCallsAtOneTime holds that calls with one program may be made at one time. (R5)
func TestCallsAtOneTime(t *testing.T) {
	var all sync.WaitGroup
	l := someOfAll(t)
	var want []string
	for _, g := range l {
		want = append(want, g.run().String())
	}
	for range 8 {
		all.Go(func() {
			for n, g := range l {
				if g.run().String() != want[n] {
					t.Error("another answer")
				}
			}
		})
	}
	all.Wait()
}

// TestNothingBesideErrors holds that an error stands alone. (R2)
func TestNothingBesideErrors(t *testing.T) {
	for _, g := range someOfAll(t) {
		if w, e := walk.Run(g.Code, g.picks, g.fuel); e != api.OK && (w.Seen != nil || w.Short || w.Strange) {
			t.Errorf("%s: %+v beside the error %d", textOf(g.Code), w, e)
		}
	}
}
