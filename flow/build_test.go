package flow_test

import (
	"fmt"
	"reflect"
	"strconv"
	"strings"
	"testing"

	"turnstile/api"
	"turnstile/flow"
)

// graph has the numbers' registers 0, 1, 2, and 3, 4, 5 of references.
func graph(blocks ...api.Block) api.Graph {
	return api.Graph{Refs: []bool{false, false, false, true, true, true}, Blocks: blocks}
}

// read is a graph of a text, whose blocks are parted by blanks: a letter for each instruction, and the end: >1 jumps, ?1,2 branches, a dot halts.
func read(t *testing.T, text string) api.Graph {
	t.Helper()
	g := graph()
	for _, word := range strings.Fields(text) {
		cut := strings.IndexAny(word, ">?.")
		var b api.Block
		for _, letter := range word[:cut] {
			b.Ins = append(b.Ins, instruction(t, letter, &g.Sites))
		}
		yes, no, _ := strings.Cut(word[cut+1:], ",")
		switch word[cut] {
		case '>':
			b.Last, b.Yes = api.LaJump, number(t, yes)
		case '?':
			b.Last, b.Yes, b.No = api.LaBranch, number(t, yes), number(t, no)
		case '.':
			b.Last = api.LaHalt
		}
		g.Blocks = append(g.Blocks, b)
	}
	return g
}

func number(t *testing.T, text string) int {
	t.Helper()
	n, err := strconv.Atoi(text)
	if err != nil {
		t.Fatal(err)
	}
	return n
}

func instruction(t *testing.T, letter rune, sites *int) api.Ins {
	t.Helper()
	switch letter {
	case 'b':
		return api.Ins{Kind: api.InBegin}
	case 'e':
		return api.Ins{Kind: api.InEnd}
	case 'n':
		*sites++
		return api.Ins{Kind: api.InNew, A: 3, N: 2, C: *sites - 1}
	case 'l':
		return api.Ins{Kind: api.InLoad, B: 3, C: -1}
	case 'S':
		return api.Ins{Kind: api.InOwnStore, B: 3, C: 1}
	case 'p':
		return api.Ins{Kind: api.InPrint}
	case 'c':
		return api.Ins{Kind: api.InConst, A: 1, N: 5}
	}
	t.Fatalf("no instruction: %q", letter)
	return api.Ins{}
}

// textOf is that text of a graph; other instructions than begin and end are told as p.
func textOf(g api.Graph) string {
	var l []string
	for _, b := range g.Blocks {
		var s strings.Builder
		for _, i := range b.Ins {
			switch i.Kind {
			case api.InBegin:
				s.WriteString("b")
			case api.InEnd:
				s.WriteString("e")
			default:
				s.WriteString("p")
			}
		}
		switch b.Last {
		case api.LaJump:
			fmt.Fprintf(&s, ">%d", b.Yes)
		case api.LaBranch:
			fmt.Fprintf(&s, "?%d,%d", b.Yes, b.No)
		case api.LaHalt:
			s.WriteString(".")
		}
		l = append(l, s.String())
	}
	return short(strings.Join(l, " "))
}

// short is as much of something long as can be read.
func short(text string) string { return text[:min(len(text), 500)] }

// answer is what the four calls say of a graph.
type answer struct {
	reach  []bool
	ahead  [][]int
	dom    []int
	inside []bool
}

// asked are the answers of the four calls, each of which takes the graph.
func asked(t *testing.T, g api.Graph) (a answer) {
	t.Helper()
	var e [4]api.Errno
	a.reach, e[0] = flow.Reach(g)
	a.ahead, e[1] = flow.Ahead(g)
	a.dom, e[2] = flow.Dom(g)
	a.inside, e[3] = flow.Inside(g)
	if e != [4]api.Errno{} {
		t.Fatalf("%s: the errors %v", textOf(g), e)
	}
	return a
}

// texts are the four answers: 1 and 0 for true and false; the blocks ahead of each parted by commas, a - where there is none.
func (a answer) texts() [4]string {
	var ahead []string
	for _, l := range a.ahead {
		ahead = append(ahead, numbers(l, ","))
	}
	return [4]string{bits(a.reach), strings.Join(ahead, " "), numbers(a.dom, " "), bits(a.inside)}
}

func bits(l []bool) string {
	var s strings.Builder
	for _, on := range l {
		if on {
			s.WriteString("1")
		} else {
			s.WriteString("0")
		}
	}
	return s.String()
}

func numbers(l []int, between string) string {
	if len(l) == 0 {
		return "-"
	}
	var s []string
	for _, n := range l {
		s = append(s, strconv.Itoa(n))
	}
	return strings.Join(s, between)
}

func callNames() [4]string { return [4]string{"Reach", "Ahead", "Dom", "Inside"} }

// testTexts holds the four answers.
func testTexts(t *testing.T, g api.Graph, want [4]string) {
	t.Helper()
	got := asked(t, g).texts()
	for k, name := range callNames() {
		if got[k] != want[k] {
			t.Errorf("%s: %s: %s, not %s", textOf(g), name, short(got[k]), short(want[k]))
		}
	}
}

// testBlocks holds the answers of Reach, Ahead and Dom of a text's graph, in which nothing is inside.
func testBlocks(t *testing.T, text, reach, ahead, dom string) {
	t.Helper()
	g := read(t, text)
	testTexts(t, g, [4]string{reach, ahead, dom, strings.Repeat("0", len(g.Blocks))})
}

// testInside holds the answer of Inside, and that the other three are those of the same graph without a block of the language.
func testInside(t *testing.T, text, want string) {
	t.Helper()
	g := read(t, text)
	texts := asked(t, read(t, strings.NewReplacer("b", "", "e", "", "n", "", "l", "", "S", "").Replace(text))).texts()
	texts[3] = want
	testTexts(t, g, texts)
}

// remade is a copy with all lists made anew by a function, those within them ahead of it.
func remade(v reflect.Value, list func(reflect.Value) reflect.Value) reflect.Value {
	next := reflect.New(v.Type()).Elem()
	next.Set(v)
	switch v.Kind() {
	case reflect.Struct:
		for i := range v.NumField() {
			next.Field(i).Set(remade(v.Field(i), list))
		}
	case reflect.Slice:
		next = reflect.MakeSlice(v.Type(), v.Len(), v.Len())
		for i := range v.Len() {
			next.Index(i).Set(remade(v.Index(i), list))
		}
		next = list(next)
	}
	return next
}

func remadeGraph(g api.Graph, list func(reflect.Value) reflect.Value) api.Graph {
	return remade(reflect.ValueOf(g), list).Interface().(api.Graph)
}

// copied is a copy that shares no memory with what it is a copy of.
func copied(g api.Graph) api.Graph {
	return remadeGraph(g, func(l reflect.Value) reflect.Value { return l })
}

// withoutEmpty is a copy in which empty lists are nil.
func withoutEmpty(g api.Graph) api.Graph {
	return remadeGraph(g, func(l reflect.Value) reflect.Value {
		if l.Len() == 0 {
			return reflect.Zero(l.Type())
		}
		return l
	})
}
