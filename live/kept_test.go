package live_test

import (
	"cmp"
	"fmt"
	"reflect"
	"slices"
	"sync"
	"testing"

	"turnstile/api"
	"turnstile/live"
)

// roomy is a copy whose lists have spare room with something in it: their first element once more, or a zero one.
func roomy(g api.Graph) api.Graph {
	return remadeGraph(g, func(l reflect.Value) reflect.Value {
		one := reflect.Zero(l.Type().Elem())
		if l.Len() > 0 {
			one = l.Index(0)
		}
		return reflect.Append(l, one, one).Slice(0, l.Len())
	})
}

// withRoom is a copy of all that there is in memory, spare room as a part of the lists.
func withRoom(v reflect.Value) reflect.Value {
	if v.Kind() == reflect.Slice {
		v = v.Slice(0, v.Cap())
	}
	next := reflect.New(v.Type()).Elem()
	next.Set(v)
	switch v.Kind() {
	case reflect.Struct:
		for i := range v.NumField() {
			next.Field(i).Set(withRoom(v.Field(i)))
		}
	case reflect.Slice:
		next = reflect.MakeSlice(v.Type(), v.Len(), v.Len())
		for i := range v.Len() {
			next.Index(i).Set(withRoom(v.Index(i)))
		}
	}
	return next
}

// someOfAll are graphs of all sorts, right ones and wrong ones.
func someOfAll(t *testing.T) []api.Graph {
	l := []api.Graph{
		{}, graph(), read(t, "halt"), read(t, "const r0 1; calc add r1 r0 r2; branch r1 0 1", "print r0; halt"),
		read(t, "begin; calc add r0 r0 r1; calc add r2 r2 r1; end; print r0; print r2; const r1 2; halt"),
		read(t, "begin; load r6 r6 r0 1; calc add r1 r1 r0; jump 1", "calc add r2 r1 r2; end; jump 0"),
		read(t, "halt", "begin; begin; jump 1"), graph(halt(api.Ins{Kind: api.InBegin})), graph(api.Block{}),
	}
	each(139, 40, func(m maker, g api.Graph) { l = append(l, g) })
	each(140, 20, func(m maker, g api.Graph) {
		m.edit(&g)
		l = append(l, g)
	})
	return l
}

// answers are all that the three calls answer of a graph, at spots of all sorts.
type answers struct {
	In        [][]int
	At, Saved [][]int
	Errors    []api.Errno
}

func answersOf(g api.Graph) (a answers) {
	var e api.Errno
	a.In, e = live.In(g)
	a.Errors = []api.Errno{e}
	for _, s := range append(spots(g), spot(0, -1), spot(len(g.Blocks), 0)) {
		l, e := live.At(g, s)
		a.At, a.Errors = append(a.At, l), append(a.Errors, e)
		l, e = live.Saved(g, s)
		a.Saved, a.Errors = append(a.Saved, l), append(a.Errors, e)
	}
	return a
}

func told(g api.Graph) string { return fmt.Sprint(answersOf(g)) }

// TestGivenIsKept holds that what is handed in is not changed, its spare room neither. (R4)
func TestGivenIsKept(t *testing.T) {
	for _, g := range someOfAll(t) {
		g = roomy(g)
		before := withRoom(reflect.ValueOf(g)).Interface()
		told(g)
		if after := withRoom(reflect.ValueOf(g)).Interface(); !reflect.DeepEqual(before, after) {
			t.Errorf("%+v has become %+v", before, after)
		}
	}
}

// TestEmptyListsAreNone holds that empty lists and nil ones mean the same, and that spare room means nothing. (R4)
func TestEmptyListsAreNone(t *testing.T) {
	for _, g := range someOfAll(t) {
		want := told(g)
		for _, other := range []api.Graph{copied(g), withoutEmpty(g), roomy(g)} {
			if got := told(other); got != want {
				t.Errorf("%+v: %s, not %s", g, got, want)
			}
		}
	}
}

// stretch is where a list lies, its spare room too.
type stretch struct{ from, to uintptr }

// stretchesOf are those of all lists of a value.
func stretchesOf(v reflect.Value) (l []stretch) {
	switch v.Kind() {
	case reflect.Struct:
		for i := range v.NumField() {
			l = append(l, stretchesOf(v.Field(i))...)
		}
	case reflect.Slice:
		if v.Cap() > 0 {
			l = append(l, stretch{v.Pointer(), v.Pointer() + uintptr(v.Cap())*v.Type().Elem().Size()})
		}
		for i := range v.Len() {
			l = append(l, stretchesOf(v.Index(i))...)
		}
	}
	return l
}

// TestAnswersAreNew holds that what is answered shares no memory with what was handed in nor with other answers, nor two lists of one answer; and that it stays as it was when those are written over. (R4)
func TestAnswersAreNew(t *testing.T) {
	for _, g := range someOfAll(t) {
		g = roomy(g)
		first, second := answersOf(g), answersOf(g)
		var l []stretch
		for _, v := range []any{g, first, second} {
			l = append(l, stretchesOf(reflect.ValueOf(v))...)
		}
		slices.SortFunc(l, func(a, b stretch) int { return cmp.Compare(a.from, b.from) })
		for n := 1; n < len(l); n++ {
			if l[n].from < l[n-1].to {
				t.Errorf("%s: two lists lie in one place", textOf(g))
			}
		}
		want, given := withRoom(reflect.ValueOf(first)).Interface(), withRoom(reflect.ValueOf(g)).Interface()
		spoil(reflect.ValueOf(&second).Elem())
		third := answersOf(g)
		if !reflect.DeepEqual(withRoom(reflect.ValueOf(first)).Interface(), want) || !reflect.DeepEqual(third, first) {
			t.Errorf("%s: %v has become %v, and then %v", textOf(g), want, first, third)
		}
		if !reflect.DeepEqual(withRoom(reflect.ValueOf(g)).Interface(), given) {
			t.Errorf("%+v has become %+v", given, g)
		}
	}
}

// spoil makes all lists of an answer something else, their spare room too, those within them first.
func spoil(v reflect.Value) {
	switch v.Kind() {
	case reflect.Struct:
		for i := range v.NumField() {
			spoil(v.Field(i))
		}
	case reflect.Slice:
		all := v.Slice(0, v.Cap())
		for i := range all.Len() {
			spoil(all.Index(i))
		}
	case reflect.Int:
		v.SetInt(^v.Int())
	}
}

// TestCallsAreAlone holds that no call makes a difference to another one. (R5)
func TestCallsAreAlone(t *testing.T) {
	graphs := someOfAll(t)
	var want []string
	for _, g := range graphs {
		want = append(want, told(g))
	}
	for i := range graphs {
		for j := range graphs {
			live.In(graphs[i])
			live.Saved(graphs[i], spot(0, 0))
			if got := told(graphs[j]); got != want[j] {
				t.Errorf("%+v: %s, not %s", graphs[j], got, want[j])
			}
		}
	}
	// The same memory, with something else in it.
	g := read(t, "branch r0 1 2", "print r1; halt", "print r2; halt")
	testIn(t, g, "0 1 2; 1; 2")
	g.Blocks[0].No = 1
	testIn(t, g, "0 1; 1; 2")
	g.Blocks[1].Ins[0].B = 5
	testIn(t, g, "0 5; 5; 2")
	g.Blocks[2].Yes = 4
	testRefused(t, "a halt with a Yes", g)
}

// TestCallsAtOneTime holds that calls of one graph may be made at one time. (R5)
func TestCallsAtOneTime(t *testing.T) {
	var all sync.WaitGroup
	graphs := someOfAll(t)
	var want []string
	for _, g := range graphs {
		want = append(want, told(g))
	}
	for range 8 {
		all.Go(func() {
			for n, g := range graphs {
				if told(g) != want[n] {
					t.Error("another answer")
				}
			}
		})
	}
	all.Wait()
}
