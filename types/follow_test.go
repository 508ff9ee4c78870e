package types_test

import (
	"slices"
	"testing"

	"turnstile/api"
	"turnstile/show"
	"turnstile/types"
)

// shorter are a program's trees without one of its threads, and without the last statement of one of its threads' lists.
func shorter(p api.Program) (l []api.Program) {
	for i, list := range p.Threads {
		q := p
		q.Threads = slices.Delete(slices.Clone(p.Threads), i, i+1)
		l = append(l, q)
		if len(list) > 0 {
			q.Threads = slices.Clone(p.Threads)
			q.Threads[i] = list[:len(list)-1]
			l = append(l, q)
		}
	}
	return l
}

// testShorter holds that nothing is found in what is left of a program in which nothing is found.
func testShorter(t *testing.T, p api.Program) {
	t.Helper()
	for _, q := range shorter(p) {
		if place, e := types.Check(q); place != 0 || e != api.OK {
			s, _ := show.Program(q)
			t.Fatalf("%s\nthe error %d at %d", s, e, place)
		}
	}
}

// TestLessOfWhatFits takes all threads and statements off a program, in all orders in which that can be done.
func TestLessOfWhatFits(t *testing.T) {
	p, _ := read(t, "record r { x int; } shared g r; func f(a r) int { return a.x; } thread { var x int = 1; print x; atomic { g = new r; } } thread { var y r; if 1 { var z r = y; print f(z); } y = nil; } thread { print f(nil); return; }")
	var all []api.Program
	for next := []api.Program{p}; len(next) > 0; {
		q := next[0]
		next = append(next[1:], shorter(q)...)
		all = append(all, q)
	}
	if len(all) < 1000 {
		t.Errorf("%d programs", len(all))
	}
	for _, q := range all {
		testTree(t, "a shorter program", q, 0, api.OK)
	}
	for q := whole(t); len(q.Threads) > 0; q = shorter(q)[len(shorter(q))-1] {
		testShorter(t, q)
	}
}

// threadsBehind are threads that are laid behind those of a program: none, right ones, wrong ones.
func threadsBehind(t *testing.T) (l [][][]api.Stmt) {
	for _, text := range []string{"", "thread { }", "thread { print 1; var x int; x = 1; }", "thread { print w; }", "thread { print nil; return 1; }", "thread { var x int; var x int; }", "thread { } thread { w(); }"} {
		p, _ := read(t, text)
		l = append(l, p.Threads)
	}
	return l
}

// testBehind holds that threads behind the one in which a fault lies make no difference to it.
func testBehind(t *testing.T, p api.Program, behind [][][]api.Stmt) {
	t.Helper()
	place, e := types.Check(p)
	q := p
	q.Threads = nil
	for _, list := range p.Threads {
		if types.Places(q) > place {
			break
		}
		q.Threads = append(q.Threads, list)
	}
	upTo := len(q.Threads)
	for _, l := range append(behind, p.Threads[upTo:]) {
		q.Threads = append(q.Threads[:upTo:upTo], l...)
		if show.Check(q) == api.OK {
			testTree(t, "other threads behind", q, place, e)
		}
	}
}

func TestThreadsBehindAFault(t *testing.T) {
	behind := threadsBehind(t)
	for _, text := range []string{
		"thread { print w; }", "thread { print 1; } thread { if 1 { var x int = nil; } } thread { } thread { print w; }", "thread { var x int; } thread { x = 1; } thread { print nil; } thread { }",
		"func f() { print nil; } thread { print w; } thread { }", "record r { x w; } thread { var y int; } thread { f(); }", "shared a int; shared a int; thread { a(); }", "func f(a w) { } thread { f(1); } thread { f(nil); }",
	} {
		p, _ := read(t, text)
		if _, e := types.Check(p); e == api.OK {
			t.Errorf("%s: nothing is found", text)
		}
		testBehind(t, p, behind)
	}
}

// TestWhatFollowsOfEdits holds both for many programs, right ones and wrong ones.
func TestWhatFollowsOfEdits(t *testing.T) {
	p := whole(t)
	behind := threadsBehind(t)
	right, wrong := 0, 0
	for n, e := range editsOf(partsOf(&p)) {
		back := e()
		if _, e := types.Check(p); e == api.OK {
			right++
			testShorter(t, p)
		} else if e != api.ErrArg && n%8 == 0 {
			wrong++
			testBehind(t, p, behind)
		}
		back()
	}
	if right < 1000 || wrong < 1000 {
		t.Errorf("%d right programs, %d wrong ones", right, wrong)
	}
}
