package live_test

import (
	"reflect"
	"slices"
	"strconv"
	"strings"
	"testing"

	"turnstile/api"
	"turnstile/ir"
	"turnstile/live"
)

// read is a graph of blocks' texts: lines as ir has them, parted by semicolons. The registers 0 to 5 are numbers, 6 to 9 are references; there are ten sites.
func read(t *testing.T, blocks ...string) api.Graph {
	t.Helper()
	return readOf(t, "10 10 r6 r7 r8 r9", blocks...)
}

// readOf is the same with other registers and sites.
func readOf(t *testing.T, head string, blocks ...string) api.Graph {
	t.Helper()
	var s strings.Builder
	s.WriteString("words 65536\nthread " + head + "\n")
	for _, b := range blocks {
		s.WriteString("block\n" + strings.ReplaceAll(b, "; ", "\n") + "\n")
	}
	c, line, e := ir.Parse(s.String())
	if e != api.OK {
		t.Fatalf("%s: the error %d at the line %d", s.String(), e, line)
	}
	return c.Threads[0]
}

// linesOf are the lines of a graph that may be, block by block.
func linesOf(g api.Graph) (l []string) {
	s, _ := ir.Text(api.Code{Words: api.MaxHeap, Threads: []api.Graph{g}})
	for n, b := range strings.Split(s, "block\n") {
		if n > 0 {
			l = append(l, strings.ReplaceAll(strings.TrimSpace(b), "\n", "; "))
		}
	}
	return l
}

// textOf tells a graph, as much of it as can be read.
func textOf(g api.Graph) string {
	s := strings.Join(linesOf(g), " | ")
	return s[:min(len(s), 800)]
}

func spot(block, ins int) api.Spot { return api.Spot{Block: block, Ins: ins} }

// spots are all that there are.
func spots(g api.Graph) (l []api.Spot) {
	for n, b := range g.Blocks {
		for k := range len(b.Ins) + 1 {
			l = append(l, spot(n, k))
		}
	}
	return l
}

func isBegin(g api.Graph, s api.Spot) bool {
	l := g.Blocks[s.Block].Ins
	return s.Ins < len(l) && l[s.Ins].Kind == api.InBegin
}

// in, at and saved are the answers of the calls, each of which takes what it is given.
func in(t *testing.T, g api.Graph) [][]int {
	t.Helper()
	l, e := live.In(g)
	if e != api.OK {
		t.Fatalf("%s: In: the error %d", textOf(g), e)
	}
	return l
}

func at(t *testing.T, g api.Graph, s api.Spot) []int {
	t.Helper()
	l, e := live.At(g, s)
	if e != api.OK {
		t.Fatalf("%s: At %v: the error %d", textOf(g), s, e)
	}
	return l
}

func saved(t *testing.T, g api.Graph, s api.Spot) []int {
	t.Helper()
	l, e := live.Saved(g, s)
	if e != api.OK {
		t.Fatalf("%s: Saved %v: the error %d", textOf(g), s, e)
	}
	return l
}

// numbers tells a list: - where it is empty.
func numbers(l []int) string {
	if len(l) == 0 {
		return "-"
	}
	var s []string
	for _, n := range l {
		s = append(s, strconv.Itoa(n))
	}
	return strings.Join(s, " ")
}

// testIn holds In's answer, lists parted by semicolons; and that At says the same of each block's beginning.
func testIn(t *testing.T, g api.Graph, want string) {
	t.Helper()
	var l []string
	for n, live := range in(t, g) {
		l = append(l, numbers(live))
		if got := at(t, g, spot(n, 0)); !slices.Equal(got, live) {
			t.Errorf("%s: At %d's beginning: %v, In: %v", textOf(g), n, got, live)
		}
	}
	if got := strings.Join(l, "; "); got != want {
		t.Errorf("%s: In: %s, not %s", textOf(g), got, want)
	}
}

// testAt holds At's answers at all spots of a block, parted by semicolons.
func testAt(t *testing.T, g api.Graph, block int, want string) {
	t.Helper()
	var l []string
	for k := range len(g.Blocks[block].Ins) + 1 {
		l = append(l, numbers(at(t, g, spot(block, k))))
	}
	if got := strings.Join(l, "; "); got != want {
		t.Errorf("%s: At block %d: %s, not %s", textOf(g), block, got, want)
	}
}

// testSaved holds Saved's answer.
func testSaved(t *testing.T, g api.Graph, block, ins int, want string) {
	t.Helper()
	if got := numbers(saved(t, g, spot(block, ins))); got != want {
		t.Errorf("%s: Saved {%d, %d}: %s, not %s", textOf(g), block, ins, got, want)
	}
}

// remade is a copy with all lists made anew by a function, those within them ahead of it.
func remade(v reflect.Value, list func(reflect.Value) reflect.Value) reflect.Value {
	next := reflect.New(v.Type()).Elem()
	next.Set(v)
	switch v.Kind() {
	case reflect.Struct:
		for i := range v.NumField() {
			next.Field(i).Set(remade(v.Field(i), list))
		}
	case reflect.Slice:
		next = reflect.MakeSlice(v.Type(), v.Len(), v.Len())
		for i := range v.Len() {
			next.Index(i).Set(remade(v.Index(i), list))
		}
		next = list(next)
	}
	return next
}

func remadeGraph(g api.Graph, list func(reflect.Value) reflect.Value) api.Graph {
	return remade(reflect.ValueOf(g), list).Interface().(api.Graph)
}

// copied is a copy that shares no memory with what it is a copy of.
func copied(g api.Graph) api.Graph {
	return remadeGraph(g, func(l reflect.Value) reflect.Value { return l })
}

// withoutEmpty is a copy in which empty lists are nil.
func withoutEmpty(g api.Graph) api.Graph {
	return remadeGraph(g, func(l reflect.Value) reflect.Value {
		if l.Len() == 0 {
			return reflect.Zero(l.Type())
		}
		return l
	})
}
