package ir_test

import (
	"cmp"
	"fmt"
	"reflect"
	"slices"
	"strings"
	"sync"
	"testing"

	"turnstile/api"
	"turnstile/ir"
)

// roomy is a copy whose lists have spare room with something in it: their first element once more, or a zero one.
func roomy(c api.Code) api.Code {
	return remadeCode(c, func(l reflect.Value) reflect.Value {
		one := reflect.Zero(l.Type().Elem())
		if l.Len() > 0 {
			one = l.Index(0)
		}
		return reflect.Append(l, one, one).Slice(0, l.Len())
	})
}

// withRoom is a copy of all that there is in memory, spare room as a part of the lists.
func withRoom(v reflect.Value) reflect.Value {
	if v.Kind() == reflect.Slice {
		v = v.Slice(0, v.Cap())
	}
	next := reflect.New(v.Type()).Elem()
	next.Set(v)
	switch v.Kind() {
	case reflect.Struct:
		for i := range v.NumField() {
			next.Field(i).Set(withRoom(v.Field(i)))
		}
	case reflect.Slice:
		next = reflect.MakeSlice(v.Type(), v.Len(), v.Len())
		for i := range v.Len() {
			next.Index(i).Set(withRoom(v.Index(i)))
		}
	}
	return next
}

// listsOf hands on all lists of a value, each with its spare room.
func listsOf(v reflect.Value, test func(l reflect.Value)) {
	switch v.Kind() {
	case reflect.Struct:
		for i := range v.NumField() {
			listsOf(v.Field(i), test)
		}
	case reflect.Slice:
		test(v.Slice(0, v.Cap()))
		for i := range v.Len() {
			listsOf(v.Index(i), test)
		}
	}
}

// someOfAll are programs of all sorts, right ones and wrong ones.
func someOfAll() []api.Code {
	whole, _ := everyKind()
	l := []api.Code{{}, {Words: -1}, whole, code(), code(atOnce(), atOnce(), atOnce(), atOnce(), atOnce())}
	for _, g := range moreThreads() {
		l = append(l, code(g), code(atOnce(), g))
	}
	someCodes(96, 60, func(m maker, c api.Code) { l = append(l, c) })
	return l
}

// someTexts are texts of all sorts, right ones and wrong ones.
func someTexts() (l []string) {
	l = []string{"", "\n", "words 0", "words 0\n", "words 65537\n", "words 0\nthread 1025 0 x\n", "words 0\nthread 1 0\nblock\nprint r0\n", "words 0\nthread 1 0\nblock\nprint  r0\nhalt\n", "words 0\nthread 1024 0 r5\nblock\nhalt\n", strings.Repeat("\n", api.MaxText+1)}
	for _, c := range someOfAll() {
		l = append(l, textByWords(c))
	}
	return l
}

// told is what Check and Text answer of a program.
func told(c api.Code) string {
	s, e := ir.Text(c)
	return fmt.Sprintf("%v %q %d", check(c), s, e)
}

// taken is what Parse answers of a text.
func taken(s string) string {
	c, line, e := ir.Parse(s)
	return fmt.Sprintf("%v %d %d", withoutEmpty(c), line, e)
}

// TestGivenIsKept holds that what is handed in is not changed, its spare room neither. (R4)
func TestGivenIsKept(t *testing.T) {
	for _, c := range someOfAll() {
		c = roomy(c)
		before := withRoom(reflect.ValueOf(c)).Interface()
		told(c)
		if after := withRoom(reflect.ValueOf(c)).Interface(); !reflect.DeepEqual(before, after) {
			t.Errorf("%+v has become %+v", before, after)
		}
	}
}

// TestEmptyListsAreNone holds that empty lists and nil ones mean the same, and that spare room means nothing. (R4)
func TestEmptyListsAreNone(t *testing.T) {
	for _, c := range someOfAll() {
		want := told(c)
		for _, other := range []api.Code{copied(c), withoutEmpty(c), roomy(c)} {
			if got := told(other); got != want {
				t.Errorf("%+v: %s, not %s", c, got, want)
			}
		}
	}
}

// stretch is where a list lies, its spare room too.
type stretch struct{ from, to uintptr }

// stretchesOf are those of all lists of an answer.
func stretchesOf(c *api.Code) (l []stretch) {
	listsOf(reflect.ValueOf(c).Elem(), func(v reflect.Value) {
		if v.Cap() > 0 {
			l = append(l, stretch{v.Pointer(), v.Pointer() + uintptr(v.Cap())*v.Type().Elem().Size()})
		}
	})
	return l
}

// TestAnswersAreNew holds that the graphs of a text share no memory with those of another call, nor two lists of one answer. (R4)
func TestAnswersAreNew(t *testing.T) {
	for _, s := range someTexts() {
		one, _, e := ir.Parse(s)
		other, _, _ := ir.Parse(s)
		if e != api.OK {
			continue
		}
		l := append(stretchesOf(&one), stretchesOf(&other)...)
		slices.SortFunc(l, func(a, b stretch) int { return cmp.Compare(a.from, b.from) })
		for n := 1; n < len(l); n++ {
			if l[n].from < l[n-1].to {
				t.Errorf("%q: two lists lie in one place", bars(s))
			}
		}
		want := taken(s)
		spoil(reflect.ValueOf(&one).Elem())
		if !same(other, parsed(t, s)) {
			t.Errorf("%q: another answer has become %+v", bars(s), other)
		}
		if got := taken(s); got != want {
			t.Errorf("%q: %s, not %s", bars(s), got, want)
		}
	}
}

// parsed are the graphs of a text by the chapter's words.
func parsed(t *testing.T, s string) api.Code {
	t.Helper()
	c, _, e := readByWords(s)
	if e != api.OK {
		t.Fatalf("%q: the error %d", bars(s), e)
	}
	return c
}

// spoil makes all lists of an answer something else, their spare room too, those within them first.
func spoil(v reflect.Value) {
	switch v.Kind() {
	case reflect.Struct:
		for i := range v.NumField() {
			spoil(v.Field(i))
		}
	case reflect.Slice:
		all := v.Slice(0, v.Cap())
		for i := range all.Len() {
			spoil(all.Index(i))
		}
		for i := range all.Len() {
			all.Index(i).SetZero()
		}
	}
}

// TestCallsAreAlone holds that no call makes a difference to another one. (R5)
func TestCallsAreAlone(t *testing.T) {
	codes, texts := someOfAll(), someTexts()
	var ofCodes, ofTexts []string
	for _, c := range codes {
		ofCodes = append(ofCodes, told(c))
	}
	for _, s := range texts {
		ofTexts = append(ofTexts, taken(s))
	}
	for i := range texts {
		for j := range codes {
			ir.Parse(texts[i])
			if got := told(codes[j]); got != ofCodes[j] {
				t.Errorf("%+v: %s, not %s", codes[j], got, ofCodes[j])
			}
			if i%7 == 0 {
				if got := taken(texts[i]); got != ofTexts[i] {
					t.Errorf("%q: %s, not %s", bars(texts[i]), got, ofTexts[i])
				}
			}
		}
	}
	// The same memory, with something else in it.
	c := code(graph(halt(tell(0))))
	testCheck(t, "ahead", c, nothing())
	c.Threads[0].Blocks[0].Ins[0] = tell(3)
	testCheck(t, "behind", c, graphFault(0, 0, 0))
	c.Threads[0].Refs[3] = false
	testTold(t, c, "words 7/thread 6 3 r4 r5/block/print r3/halt/")
}

// TestCallsAtOneTime holds that calls of one program may be made at one time. (R5)
func TestCallsAtOneTime(t *testing.T) {
	var all sync.WaitGroup
	whole, text := everyKind()
	text = lines(text)
	wrong := code(atOnce(), graph(jump(0, begin())))
	wantWhole, wantWrong, wantText := told(whole), told(wrong), taken(text)
	for range 8 {
		all.Go(func() {
			for range 20 {
				if told(whole) != wantWhole || told(wrong) != wantWrong || taken(text) != wantText {
					t.Error("another answer")
				}
			}
		})
	}
	all.Wait()
}
