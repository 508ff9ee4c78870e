package tidy_test

import (
	"reflect"
	"slices"
	"strconv"
	"strings"
	"testing"

	"turnstile/api"
	"turnstile/ir"
	"turnstile/tidy"
	"turnstile/walk"
)

// plenty is more fuel than any run needs of which nothing else is said.
const plenty = 3000

// read answers the graphs of threads' texts: lines as ir has them, parted by semicolons, blocks parted by bars. Each thread has the numbers' registers r0 to r3 and those of references r4 to r7, and nine sites; there are seven shared words.
func read(t *testing.T, threads ...string) api.Code {
	t.Helper()
	var text strings.Builder
	text.WriteString("words 7\n")
	for _, s := range threads {
		text.WriteString("thread 8 9 r4 r5 r6 r7\n")
		for b := range strings.SplitSeq(s, " | ") {
			text.WriteString("block\n" + strings.ReplaceAll(b, "; ", "\n") + "\n")
		}
	}
	c, line, e := ir.Parse(text.String())
	if e != api.OK {
		t.Fatalf("%v: ir finds the error %d at %d", threads, e, line)
	}
	return c
}

// tell is the text of which a thread's graph is read.
func tell(g api.Graph) string {
	s, _ := ir.Text(api.Code{Words: api.MaxHeap, Threads: []api.Graph{g}})
	l := strings.Split(strings.TrimSuffix(s, "\n"), "\nblock\n")
	return strings.ReplaceAll(strings.Join(l[1:], " | "), "\n", "; ")
}

// tellAll is the text of all threads.
func tellAll(c api.Code) string {
	l := []string{"words " + strconv.Itoa(c.Words)}
	for _, g := range c.Threads {
		l = append(l, tell(g))
	}
	return head(strings.Join(l, "\n"))
}

// head is as much of something long as can be read.
func head(s string) string { return s[:min(len(s), 3000)] }

// tidied is what Tidy makes of graphs that may be.
func tidied(t *testing.T, c api.Code) api.Code {
	t.Helper()
	less, e := tidy.Tidy(c)
	if e != api.OK {
		t.Fatalf("%s\nthe error %d", tellAll(c), e)
	}
	return less
}

// testTidy holds what becomes of a thread, and all promises of it.
func testTidy(t *testing.T, text, want string) {
	t.Helper()
	c := read(t, text)
	testAll(t, c)
	if got := tell(tidied(t, c).Threads[0]); got != want {
		t.Errorf("%s\nbecomes %s\nnot     %s", text, got, want)
	}
}

// testSelf holds that a thread stays as it is.
func testSelf(t *testing.T, text string) {
	t.Helper()
	testTidy(t, text, text)
}

func run(t *testing.T, c api.Code, picks []int, fuel int) api.Walked {
	t.Helper()
	w, e := walk.Run(c, picks, fuel)
	if e != api.OK {
		t.Fatalf("%s\nwalk finds the error %d", tellAll(c), e)
	}
	return w
}

// picked are so many picks of one thread behind the other.
func picked(thread, many int) []int { return slices.Repeat([]int{thread}, many) }

func instructions(g api.Graph) (l []api.Ins) {
	for _, b := range g.Blocks {
		l = append(l, b.Ins...)
	}
	return l
}

// of counts the instructions of a graph that are of some kinds.
func of(g api.Graph, kinds ...api.InsKind) (many int) {
	for _, i := range instructions(g) {
		if slices.Contains(kinds, i.Kind) {
			many++
		}
	}
	return many
}

func branches(g api.Graph) (many int) {
	for _, b := range g.Blocks {
		if b.Last == api.LaBranch {
			many++
		}
	}
	return many
}

// remade is a copy with all lists made anew by a function, those within them ahead of it.
func remade(v reflect.Value, list func(reflect.Value) reflect.Value) reflect.Value {
	next := reflect.New(v.Type()).Elem()
	next.Set(v)
	switch v.Kind() {
	case reflect.Struct:
		for i := range v.NumField() {
			next.Field(i).Set(remade(v.Field(i), list))
		}
	case reflect.Slice:
		next = reflect.MakeSlice(v.Type(), v.Len(), v.Len())
		for i := range v.Len() {
			next.Index(i).Set(remade(v.Index(i), list))
		}
		next = list(next)
	}
	return next
}

func remadeCode(c api.Code, list func(reflect.Value) reflect.Value) api.Code {
	return remade(reflect.ValueOf(c), list).Interface().(api.Code)
}

// copied is a copy that shares no memory with what it is a copy of.
func copied(c api.Code) api.Code {
	return remadeCode(c, func(l reflect.Value) reflect.Value { return l })
}
