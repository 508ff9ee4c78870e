package effect_test

import (
	"slices"
	"strings"
	"testing"

	"turnstile/api"
	"turnstile/effect"
)

const (
	touches = api.EfTouches
	opens   = api.EfOpens
	tells   = api.EfTells
)

// testOf holds what the functions of a text do, in which nothing is wrong.
func testOf(t *testing.T, text string, want ...api.Effect) {
	t.Helper()
	p, _ := read(t, text)
	if l, e := effect.Of(p); !slices.Equal(l, want) || e != api.OK {
		t.Errorf("%s: %v and the error %d, not %v", text, l, e, want)
	}
}

func TestBits(t *testing.T) {
	if touches != 1 || opens != 2 || tells != 4 {
		t.Errorf("%d, %d, %d", touches, opens, tells)
	}
}

func TestOf(t *testing.T) {
	const none = api.Effect(0)
	testOf(t, "")
	testOf(t, "thread { atomic { print 1; } }")
	testOf(t, "shared s int; thread { atomic { s = 1; } } thread { print 1; }")
	testOf(t, "func f() { }", none)
	testOf(t, "func f() { } func g() { print 1; } func h() { } func k() { atomic { } } shared s int; func l() int { return s; }", none, tells, none, opens|tells, touches)
	testOf(t, "func l() int { return s; } func k() { atomic { } } func g() { print 1; } func f() { } shared s int;", touches, opens|tells, tells, none)
	testOf(t, "func f() { print 1; s = 1; } shared s int;", touches|tells)
	testOf(t, "func f() { g(); h(); } func g() { print 1; } func h() { s = 1; } shared s int;", touches|tells, tells, touches)
	testOf(t, "func f() { atomic { s = 1; } } shared s int;", opens|tells)
	testOf(t, "func f() { atomic { g(); h(); } } func g() { s = 1; } func h() { print 2; } shared s int;", opens|tells, touches, tells)
	testOf(t, "func a() { b(); } func b() { c(); } func c() { d(); e(); } func d() { print 1; } func e() { } func f() { g(); } func g() { h(); } func h() { atomic { } }", tells, tells, tells, tells, none, opens|tells, opens|tells, opens|tells)
	testOf(t, "func a() { print b(); } func b() int { return c() + 1; } func c() int { return d().x; } record r { x int; } func d() r { return nil; }", touches|tells, touches, touches, none)
	p, _ := read(t, wholeText)
	if l, e := effect.Of(p); !slices.Equal(l, []api.Effect{none, none, tells, touches, opens | tells, touches, touches | tells, none, opens | tells, none, touches}) || e != api.OK {
		t.Errorf("%v and the error %d", l, e)
	}
}

// testLast holds what a function does in whose list a row stands, in each of some surroundings: $ is where it is laid.
func testLast(t *testing.T, want api.Effect, arounds []string, rows ...string) {
	t.Helper()
	for _, row := range rows {
		for _, around := range arounds {
			text := things + "func last() { " + strings.Replace(around, "$", row, 1) + " }"
			p, _ := read(t, text)
			if l, e := effect.Of(p); e != api.OK || len(l) != len(p.Funcs) || l[len(l)-1] != want {
				t.Errorf("%s: %v and the error %d, not %d at last", text, l, e, want)
			}
		}
	}
}

// TestOfStatements holds what one statement makes of a function, wherever it stands in it.
func TestOfStatements(t *testing.T) {
	lists := append(inLists("$"), "return; $", "while 1 { return; if 0 { } else { $ } }", "idle(); $ num(1);")
	testLast(t, 0, lists, "", "return;", "var x int; x = num(1) + 2;", "var w r = nil; if w == nil { take(1, w, nil); }", "while same(nil, nil) { idle(); }")
	testLast(t, tells, lists, "print 1;", "tell(1);", "tells(2);", "return; print 2; return;", "print num(1);", "if 1 { print 1; tell(1); }")
	testLast(t, opens|tells, lists, "atomic { }", "open(1);", "opens();", "both();", "atomic { s = 1; print get(); touch(); }", "atomic { tells(g.x); }", "if 0 { open(num(1)); } else { print 1; }", "atomic { } print 1; both();")
	for _, row := range unmarked(touching()) {
		does := touches
		if strings.Contains(row, "print") || strings.Contains(row, "tell") {
			does |= tells
		}
		testLast(t, does, lists, row)
	}
	// What stands in an atomic block touches nothing for those outside of it, but tells.
	testLast(t, opens|tells, []string{"atomic { $ }", "if 1 { } else { atomic { while 1 { $ } } }", "atomic { if s { $ } else { } }", "atomic { if s { } else { $ } } return;"}, unmarked(touching())...)
}

// TestAnswersAreTheirOwn holds that answers share no memory, spare room neither.
func TestAnswersAreTheirOwn(t *testing.T) {
	p, _ := read(t, wholeText)
	first, _ := effect.Of(p)
	second, _ := effect.Of(p)
	want := slices.Clone(second)
	for i := range first[:cap(first)] {
		first[:cap(first)][i] = 7
	}
	third, e := effect.Of(p)
	if !slices.Equal(second, want) || !slices.Equal(third, want) || e != api.OK {
		t.Errorf("%v and %v, not %v", second, third, want)
	}
}
