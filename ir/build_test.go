package ir_test

import (
	"fmt"
	"reflect"
	"strings"
	"testing"

	"turnstile/api"
	"turnstile/ir"
)

// found is what Check answers.
type found struct {
	thread int
	at     api.Spot
	e      api.Errno
}

// nothing is wrong.
func nothing() found { return found{} }

// graphFault is ErrGraph at a place.
func graphFault(thread, block, ins int) found {
	return found{thread, api.Spot{Block: block, Ins: ins}, api.ErrGraph}
}

// limitFault is ErrLimit of a thread, or of no thread: 0.
func limitFault(thread int) found { return found{thread: thread, e: api.ErrLimit} }

func check(c api.Code) (f found) {
	f.thread, f.at, f.e = ir.Check(c)
	return f
}

func testCheck(t *testing.T, what any, c api.Code, want found) {
	t.Helper()
	if got := check(c); got != want {
		t.Errorf("%s: Check: %v, not %v", head(what), got, want)
	}
}

// head is as much of something long as can be read.
func head(of any) string {
	text := fmt.Sprint(of)
	return text[:min(len(text), 500)]
}

// lines is a text whose lines are parted by bars.
func lines(text string) string { return strings.ReplaceAll(text, "/", "\n") }

// bars is a text as it can be read in one line.
func bars(text string) string { return strings.ReplaceAll(text, "\n", "/") }

// testRefused holds what Parse answers of a text that it does not take, its line feeds told as bars.
func testRefused(t *testing.T, text string, line int, e api.Errno) {
	t.Helper()
	c, gotLine, got := ir.Parse(lines(text))
	if got != e || gotLine != line || !same(c, api.Code{}) {
		t.Errorf("%q: Parse: %s, the line %d, the error %d; not %d and %d", head(bars(text)), head(c), gotLine, got, line, e)
	}
}

// testTaken holds the graphs of a text, and that they tell it.
func testTaken(t *testing.T, text string, want api.Code) {
	t.Helper()
	c, line, e := ir.Parse(lines(text))
	if e != api.OK || line != 0 || !same(c, want) {
		t.Errorf("%q: Parse: %s, the line %d, the error %d; not %s", head(bars(text)), head(c), line, e, head(want))
	}
	testTold(t, want, text)
}

// testTold holds the text of graphs, and that it comes back.
func testTold(t *testing.T, c api.Code, want string) {
	t.Helper()
	s, e := ir.Text(c)
	if e != api.OK || s != lines(want) {
		t.Errorf("%s: Text: %q and the error %d, not %q", head(c), head(bars(s)), e, head(bars(want)))
	}
	back, line, e := ir.Parse(s)
	if e != api.OK || line != 0 || !same(back, c) {
		t.Errorf("%q: Parse: %s, the line %d, the error %d; not %s", head(bars(s)), head(back), line, e, head(c))
	}
}

// testUntold holds that Text answers an error.
func testUntold(t *testing.T, what any, c api.Code, want api.Errno) {
	t.Helper()
	if s, e := ir.Text(c); s != "" || e != want {
		t.Errorf("%s: Text: %q and the error %d, not %d", head(what), head(s), e, want)
	}
}

// same says whether graphs are the same: an empty list is as a nil one.
func same(a, b api.Code) bool {
	return reflect.DeepEqual(withoutEmpty(a), withoutEmpty(b))
}

func withoutEmpty(c api.Code) api.Code {
	return remadeCode(c, func(l reflect.Value) reflect.Value {
		if l.Len() == 0 {
			return reflect.Zero(l.Type())
		}
		return l
	})
}

// remade is a copy with all lists made anew by a function, those within them ahead of it.
func remade(v reflect.Value, list func(reflect.Value) reflect.Value) reflect.Value {
	next := reflect.New(v.Type()).Elem()
	next.Set(v)
	switch v.Kind() {
	case reflect.Struct:
		for i := range v.NumField() {
			next.Field(i).Set(remade(v.Field(i), list))
		}
	case reflect.Slice:
		next = reflect.MakeSlice(v.Type(), v.Len(), v.Len())
		for i := range v.Len() {
			next.Index(i).Set(remade(v.Index(i), list))
		}
		next = list(next)
	}
	return next
}

func remadeCode(c api.Code, list func(reflect.Value) reflect.Value) api.Code {
	return remade(reflect.ValueOf(c), list).Interface().(api.Code)
}

// copied is a copy that shares no memory with what it is a copy of.
func copied(c api.Code) api.Code {
	return remadeCode(c, func(l reflect.Value) reflect.Value { return l })
}

// code is a program with as many shared words as the tests name.
func code(threads ...api.Graph) api.Code { return api.Code{Words: 7, Threads: threads} }

// sorts are registers: those of which a letter is r hold references.
func sorts(letters string) (refs []bool) {
	for _, letter := range letters {
		refs = append(refs, letter == 'r')
	}
	return refs
}

// graph has the numbers' registers 0, 1, 2, and 3, 4, 5 of references; and three sites.
func graph(blocks ...api.Block) api.Graph {
	return api.Graph{Refs: sorts("nnnrrr"), Sites: 3, Blocks: blocks}
}

// atOnce is a graph that ends at once.
func atOnce() api.Graph { return api.Graph{Blocks: []api.Block{halt()}} }

func jump(yes int, l ...api.Ins) api.Block {
	return api.Block{Ins: l, Last: api.LaJump, Yes: yes}
}

func branch(reg, yes, no int, l ...api.Ins) api.Block {
	return api.Block{Ins: l, Last: api.LaBranch, Reg: reg, Yes: yes, No: no}
}

func halt(l ...api.Ins) api.Block { return api.Block{Ins: l, Last: api.LaHalt} }

func constant(a int, n int64) api.Ins { return api.Ins{Kind: api.InConst, A: a, N: n} }

func move(a, b int) api.Ins { return api.Ins{Kind: api.InMove, A: a, B: b} }

func calc(of api.Calc, a, b, c int) api.Ins {
	return api.Ins{Kind: api.InCalc, Calc: of, A: a, B: b, C: c}
}

func isNil(b int) api.Ins { return api.Ins{Kind: api.InNil, B: b} }

func index(b int, n int64) api.Ins { return api.Ins{Kind: api.InIndex, B: b, N: n} }

func shared(a int, n int64) api.Ins { return api.Ins{Kind: api.InShared, A: a, N: n} }

func made(a int, n int64, site int) api.Ins { return api.Ins{Kind: api.InNew, A: a, N: n, C: site} }

// access is a load or a store, an own one or not.
func access(kind api.InsKind, a, b, c int, n int64) api.Ins {
	return api.Ins{Kind: kind, A: a, B: b, C: c, N: n}
}

func accesses() []api.InsKind {
	return []api.InsKind{api.InLoad, api.InStore, api.InOwnLoad, api.InOwnStore}
}

func tell(b int) api.Ins { return api.Ins{Kind: api.InPrint, B: b} }

func begin() api.Ins { return api.Ins{Kind: api.InBegin} }

func end() api.Ins { return api.Ins{Kind: api.InEnd} }

// sided is a graph of which the sides matter alone. Each text is a block: a letter for each instruction, and its end: >1 jumps, ?1,2 branches, a dot halts.
func sided(t *testing.T, blocks ...string) api.Graph {
	t.Helper()
	g := graph()
	g.Sites = 0
	for _, text := range blocks {
		cut := strings.IndexAny(text, ">?.")
		var b api.Block
		for _, letter := range text[:cut] {
			b.Ins = append(b.Ins, sidedIns(t, letter, &g.Sites))
		}
		var err error
		switch text[cut] {
		case '>':
			b.Last = api.LaJump
			_, err = fmt.Sscanf(text[cut:], ">%d", &b.Yes)
		case '?':
			b.Last = api.LaBranch
			_, err = fmt.Sscanf(text[cut:], "?%d,%d", &b.Yes, &b.No)
		case '.':
			b.Last = api.LaHalt
		}
		if err != nil {
			t.Fatal(text, err)
		}
		g.Blocks = append(g.Blocks, b)
	}
	return g
}

func sidedIns(t *testing.T, letter rune, sites *int) api.Ins {
	t.Helper()
	switch letter {
	case 'b':
		return begin()
	case 'e':
		return end()
	case 'n':
		*sites++
		return made(3, 2, *sites-1)
	case 'l':
		return access(api.InLoad, 0, 3, -1, 0)
	case 's':
		return access(api.InStore, 0, 3, -1, 0)
	case 'L':
		return access(api.InOwnLoad, 0, 3, 1, 0)
	case 'S':
		return access(api.InOwnStore, 0, 3, 1, 0)
	case 'p':
		return tell(0)
	case 'c':
		return constant(0, 5)
	case 'm':
		return move(3, 4)
	case 'a':
		return calc(api.CalcEq, 0, 3, 4)
	case 'z':
		return isNil(3)
	case 'x':
		return index(0, 2)
	case 'h':
		return shared(3, 1)
	}
	t.Fatalf("no instruction: %q", letter)
	return api.Ins{}
}
