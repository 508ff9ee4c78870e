package effect_test

import (
	"math/rand"
	"slices"
	"testing"

	"turnstile/api"
	"turnstile/effect"
	"turnstile/show"
	"turnstile/types"
)

// moreFuncs are functions of each sort, which no program of these tests calls; some of them are wrong by themselves.
func moreFuncs(t *testing.T) []api.Func {
	t.Helper()
	p, _ := read(t, `func more() { } func more() int { return 1; } func more() { print 1; } func more() { s = 1; } func more(w int) int { return s + w; } func more() { atomic { s = 1; } print 1; } func more(w r) { w.x = 1; print w.x; }
		func more() int { print 1; } func more() { s = 1; atomic { } } func more() { atomic { atomic { return; } } }`)
	return p.Funcs
}

// moreThreads are threads of each sort, right ones and wrong ones.
func moreThreads(t *testing.T) [][]api.Stmt {
	t.Helper()
	p, _ := read(t, `thread { } thread { print 1; atomic { s = 1; print s; } } thread { s = 1; } thread { atomic { return; } return; }`)
	return p.Threads
}

func textOf(t *testing.T, p api.Program) string {
	t.Helper()
	s, _ := show.Program(p)
	return s
}

// testBits holds which bits there may be together where nothing is wrong.
func testBits(t *testing.T, p api.Program) {
	t.Helper()
	l, e := effect.Of(p)
	if e != api.OK || len(l) != len(p.Funcs) {
		t.Fatalf("%s\n%v and the error %d", textOf(t, p), l, e)
	}
	for i, does := range l {
		if does > touches|opens|tells || does&touches != 0 && does&opens != 0 || does&opens != 0 && does&tells == 0 || p.Funcs[i].Result.Kind != api.TyNone && does&(opens|tells) != 0 {
			t.Fatalf("%s\nthe function %d does %d", textOf(t, p), i, does)
		}
	}
}

// testMoreFuncs holds that a function behind the others, which is not called, leaves what they do, and their faults.
func testMoreFuncs(t *testing.T, p api.Program, more []api.Func) {
	t.Helper()
	place, e := effect.Check(p)
	l, _ := effect.Of(p)
	ahead := p
	ahead.Threads = nil
	n := types.Places(ahead)
	for _, f := range more {
		q := p
		q.Funcs = append(slices.Clone(p.Funcs), f)
		alone := p
		alone.Funcs, alone.Threads = []api.Func{f}, nil
		inIt, itsOwn := effect.Check(alone)
		wantPlace, want := place, e
		if e == api.OK || place >= n {
			// Threads stand behind it, and its own fault ahead of theirs.
			if e != api.OK {
				wantPlace += types.Places(alone) - types.Places(api.Program{Records: p.Records, Shared: p.Shared})
			}
			if itsOwn != api.OK {
				wantPlace, want = n+inIt-len(p.Records)-len(p.Shared), itsOwn
			}
		}
		testTree(t, textOf(t, q), q, wantPlace, want)
		if k, e := effect.Of(q); e == api.OK && !slices.Equal(k[:len(k)-1], l) {
			t.Fatalf("%s\n%v, not %v with one more", textOf(t, q), k, l)
		}
	}
}

// testMoreThreads holds that threads say nothing of what functions do: another one behind makes no difference to a fault that lies ahead of it.
func testMoreThreads(t *testing.T, p api.Program, more [][]api.Stmt) {
	t.Helper()
	place, e := effect.Check(p)
	l, _ := effect.Of(p)
	for _, list := range more {
		q := p
		q.Threads = append(slices.Clone(p.Threads), list)
		k, ofs := effect.Of(q)
		if ofs == api.OK && !slices.Equal(k, l) {
			t.Fatalf("%s\n%v, not %v", textOf(t, q), k, l)
		}
		if e != api.OK {
			testTree(t, textOf(t, q), q, place, e)
		}
	}
	if e == api.OK {
		q := p
		q.Threads = nil
		if k, e := effect.Of(q); e != api.OK || !slices.Equal(k, l) {
			t.Fatalf("%s\n%v and the error %d, not %v", textOf(t, q), k, e, l)
		}
	}
}

func TestWhatFollows(t *testing.T) {
	funcs, threads := moreFuncs(t), moreThreads(t)
	for _, text := range []string{
		wholeText, things, things + "thread { atomic { touch(); } both(); }", "record r { x int; } shared s int;", "record r { x int; } shared s int; func f() { s = 1; } thread { f(); }", "record r { x int; } shared s int; func f() { f(); } thread { return; }", "record r { x int; } shared s int; func f() int { print 1; } thread { return; }",
		"record r { x int; } shared s int; func f() { g(); } func g() { atomic { s = 1; return; } } thread { return; }", "record r { x int; } shared s int; func f() { } thread { s = 1; } thread { return; }", "record r { x int; } shared s int; thread { } thread { atomic { return; } }",
	} {
		p, _ := read(t, text)
		if _, e := effect.Check(p); e == api.OK {
			testBits(t, p)
		}
		testMoreFuncs(t, p, funcs)
		testMoreThreads(t, p, threads)
	}
}

// TestWhatFollowsByChance holds it for many programs, right ones and wrong ones.
func TestWhatFollowsByChance(t *testing.T) {
	funcs, threads := moreFuncs(t), moreThreads(t)
	m := &maker{Rand: rand.New(rand.NewSource(63))}
	right, wrong := 0, 0
	for range 1500 {
		p := m.program()
		if _, e := effect.Check(p); e == api.OK {
			right++
			testBits(t, p)
		} else {
			wrong++
		}
		testMoreFuncs(t, p, funcs)
		testMoreThreads(t, p, threads)
	}
	if right < 100 || wrong < 100 {
		t.Errorf("%d right programs, %d wrong ones", right, wrong)
	}
}
