package tidy_test

import (
	"cmp"
	"fmt"
	"reflect"
	"slices"
	"sync"
	"testing"

	"turnstile/api"
	"turnstile/tidy"
)

// roomy is a copy whose lists have spare room with something in it: their first element once more, or a zero one.
func roomy(c api.Code) api.Code {
	return remadeCode(c, func(l reflect.Value) reflect.Value {
		one := reflect.Zero(l.Type().Elem())
		if l.Len() > 0 {
			one = l.Index(0)
		}
		return reflect.Append(l, one, one).Slice(0, l.Len())
	})
}

// withoutEmpty is a copy in which empty lists are nil.
func withoutEmpty(c api.Code) api.Code {
	return remadeCode(c, func(l reflect.Value) reflect.Value {
		if l.Len() == 0 {
			return reflect.Zero(l.Type())
		}
		return l
	})
}

// withRoom is a copy of all that there is in memory, spare room as a part of the lists.
func withRoom(v reflect.Value) reflect.Value {
	if v.Kind() == reflect.Slice {
		v = v.Slice(0, v.Cap())
	}
	next := reflect.New(v.Type()).Elem()
	next.Set(v)
	switch v.Kind() {
	case reflect.Struct:
		for i := range v.NumField() {
			next.Field(i).Set(withRoom(v.Field(i)))
		}
	case reflect.Slice:
		next = reflect.MakeSlice(v.Type(), v.Len(), v.Len())
		for i := range v.Len() {
			next.Index(i).Set(withRoom(v.Index(i)))
		}
	}
	return next
}

func memoryOf(c api.Code) any { return withRoom(reflect.ValueOf(c)).Interface() }

// someOfAll are programs of all sorts, right ones and wrong ones, such as are tidied already and such as are not.
func someOfAll(t *testing.T) []api.Code {
	l := []api.Code{
		{}, {Words: -1}, {Words: 4}, read(t, "halt"), read(t, "jump 0"), read(t, "halt", "print r0; jump 0", "const r0 1; branch r0 1 2 | print r0; halt | halt"),
		read(t, "const r0 2; const r1 3; calc mul r2 r0 r1; print r2; halt"), read(t, "begin; new r4 2 0; store r0 r4 - 1; end; halt | end; begin; jump 1"),
		read(t, "print r0; halt"), read(t, "print r0; branch r0 1 2 | print r1; jump 2 | halt"),
		{Threads: []api.Graph{{}}}, {Threads: []api.Graph{{Refs: []bool{}, Blocks: []api.Block{{Ins: []api.Ins{}, Last: api.LaHalt}}}}},
	}
	each(t, 151, 40, func(m maker, c api.Code) { l = append(l, c) })
	each(t, 152, 20, func(m maker, c api.Code) {
		m.edit(&c.Threads[1])
		l = append(l, c)
	})
	for _, c := range l[:20] {
		if less, e := tidy.Tidy(c); e == api.OK {
			l = append(l, less)
		}
	}
	return l
}

// told is all that is answered, empty lists as nil ones.
func told(c api.Code) string {
	less, e := tidy.Tidy(c)
	return fmt.Sprintf("%+v %d", withoutEmpty(less), e)
}

// TestGivenIsKept holds that what is handed in is not changed, its spare room neither. (R4)
func TestGivenIsKept(t *testing.T) {
	for _, c := range someOfAll(t) {
		c = roomy(c)
		before := memoryOf(c)
		told(c)
		if after := memoryOf(c); !reflect.DeepEqual(before, after) {
			t.Errorf("%+v has become %+v", before, after)
		}
	}
}

// TestEmptyListsAreNone holds that empty lists and nil ones mean the same, and that spare room means nothing. (R4)
func TestEmptyListsAreNone(t *testing.T) {
	for _, c := range someOfAll(t) {
		want, _ := tidy.Tidy(c)
		for _, other := range []api.Code{copied(c), withoutEmpty(c), roomy(c)} {
			if got, _ := tidy.Tidy(other); !reflect.DeepEqual(got, want) {
				t.Errorf("%+v: %+v, not %+v", c, got, want)
			}
		}
	}
}

// stretch is where a list lies, its spare room too.
type stretch struct{ from, to uintptr }

// stretchesOf are those of all lists of a value.
func stretchesOf(v reflect.Value) (l []stretch) {
	switch v.Kind() {
	case reflect.Struct:
		for i := range v.NumField() {
			l = append(l, stretchesOf(v.Field(i))...)
		}
	case reflect.Slice:
		if v.Cap() > 0 {
			l = append(l, stretch{v.Pointer(), v.Pointer() + uintptr(v.Cap())*v.Type().Elem().Size()})
		}
		for i := range v.Len() {
			l = append(l, stretchesOf(v.Index(i))...)
		}
	}
	return l
}

// TestAnswersAreNew holds that what is answered shares no memory with what was handed in nor with other answers, nor two lists of one answer; and that it stays as it was when those are written over. (R4)
func TestAnswersAreNew(t *testing.T) {
	for _, c := range someOfAll(t) {
		c = roomy(c)
		first, e := tidy.Tidy(c)
		second, _ := tidy.Tidy(c)
		if e != api.OK {
			continue
		}
		var l []stretch
		for _, v := range []any{c, first, second} {
			l = append(l, stretchesOf(reflect.ValueOf(v))...)
		}
		slices.SortFunc(l, func(a, b stretch) int { return cmp.Compare(a.from, b.from) })
		for n := 1; n < len(l); n++ {
			if l[n].from < l[n-1].to {
				t.Errorf("%s\ntwo lists lie in one place", tellAll(c))
			}
		}
		want, given := memoryOf(first), memoryOf(c)
		spoil(reflect.ValueOf(&second).Elem())
		third, _ := tidy.Tidy(c)
		if !reflect.DeepEqual(memoryOf(first), want) || !reflect.DeepEqual(third, first) {
			t.Errorf("%s\n%v has become %v, and then %v", tellAll(c), want, first, third)
		}
		if !reflect.DeepEqual(memoryOf(c), given) {
			t.Errorf("%+v has become %+v", given, c)
		}
	}
}

// spoil makes all that is in an answer something else, spare room too, lists within lists first.
func spoil(v reflect.Value) {
	switch v.Kind() {
	case reflect.Struct:
		for i := range v.NumField() {
			spoil(v.Field(i))
		}
	case reflect.Slice:
		all := v.Slice(0, v.Cap())
		for i := range all.Len() {
			spoil(all.Index(i))
		}
	case reflect.Int, reflect.Int64:
		v.SetInt(^v.Int())
	case reflect.Uint8:
		v.SetUint(^v.Uint() & 255)
	case reflect.Bool:
		v.SetBool(!v.Bool())
	}
}

// TestCallsAreAlone holds that no call makes a difference to another one. (R5)
func TestCallsAreAlone(t *testing.T) {
	all := someOfAll(t)
	var want []string
	for _, c := range all {
		want = append(want, told(c))
	}
	for i := range all {
		for j := range all {
			tidy.Tidy(all[i])
			if got := told(all[j]); got != want[j] {
				t.Errorf("%+v: %s, not %s", all[j], got, want[j])
			}
		}
	}
	// The same memory, with something else in it.
	c := read(t, "const r0 1; branch r0 1 2 | print r1; halt | print r2; halt")
	for _, row := range []struct {
		n    int64
		want string
	}{{1, "print r1; halt"}, {0, "print r2; halt"}, {-1, "print r1; halt"}} {
		c.Threads[0].Blocks[0].Ins[0].N = row.n
		if got := tell(tidied(t, c).Threads[0]); got != row.want {
			t.Errorf("%s, not %s", got, row.want)
		}
	}
}

// TestCallsAtOneTime holds that calls of one program may be made at one time. (R5)
func TestCallsAtOneTime(t *testing.T) {
	var group sync.WaitGroup
	all := someOfAll(t)
	var want []string
	for _, c := range all {
		want = append(want, told(c))
	}
	for range 8 {
		group.Go(func() {
			for n, c := range all {
				if told(c) != want[n] {
					t.Error("another answer")
				}
			}
		})
	}
	group.Wait()
}
