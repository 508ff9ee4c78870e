package effect_test

import (
	"slices"
	"strings"
	"testing"

	"turnstile/api"
	"turnstile/effect"
	"turnstile/parse"
)

// read answers a text's tree, and the place that begins behind the # in it: 0, if there is none.
func read(t *testing.T, text string) (p api.Program, place int) {
	t.Helper()
	ahead, behind, marked := strings.Cut(text, "#")
	if marked {
		// The first token behind the # stands on a line alone, so that no other place begins there.
		end := len(behind) - len(strings.TrimLeftFunc(behind, inName))
		text = ahead + "\n" + behind[:end] + "\n" + behind[end:]
	}
	p, lines, line, e := parse.Program(text)
	if e != api.OK {
		t.Fatalf("%s: parse finds the error %d at %d", text, e, line)
	}
	if marked {
		place = slices.Index(lines, strings.Count(ahead, "\n")+1)
	}
	return p, place
}

func inName(c rune) bool { return 'a' <= c && c <= 'z' || '0' <= c && c <= '9' || c == '_' }

func testTree(t *testing.T, what any, p api.Program, wantPlace int, want api.Errno) {
	t.Helper()
	if place, e := effect.Check(p); place != wantPlace || e != want {
		t.Errorf("%v: the error %d at %d, not %d at %d", what, e, place, want, wantPlace)
	}
	// Of has the same errors, with nothing beside them, and an Effect for each function where there is none.
	n := len(p.Funcs)
	if want != api.OK {
		n = 0
	}
	if l, e := effect.Of(p); len(l) != n || e != want {
		t.Errorf("%v: Of answers %v and the error %d, not %d", what, l, e, want)
	}
}

// testCheck holds what Check finds in a text's tree: the fault of the place behind the #, or nothing.
func testCheck(t *testing.T, text string, want api.Errno) {
	t.Helper()
	p, place := read(t, text)
	testTree(t, text, p, place, want)
}

func testEach(t *testing.T, want api.Errno, texts ...string) {
	t.Helper()
	for _, text := range texts {
		testCheck(t, text, want)
	}
}

// things are what the statements of the tests are about: functions of each sort that may be.
const things = `record r { x int; n r; } shared s int; shared g r; shared e [2]int; shared l [2]r;
	func idle() { } func num(x int) int { return x + 1; } func same(a r, b r) int { return a == b && a != nil; }
	func take(a int, b r, c [2]int) { } func tell(a int) { print a; } func tells(a int) { tell(a); }
	func touch() { s = 1; } func get() int { return s; } func gets(a int) int { return a + get(); } func make() r { return new r; }
	func open(a int) { atomic { } } func opens() { open(1); } func both() { open(2); atomic { touch(); } opens(); } `

// testStmts holds of each row of statements what is found in them in a surrounding: $ is where they are laid.
func testStmts(t *testing.T, surroundings []string, want api.Errno, rows ...string) {
	t.Helper()
	for _, row := range rows {
		for _, around := range surroundings {
			testCheck(t, things+strings.Replace(around, "$", row, 1), want)
		}
	}
}

// inLists are surroundings of a list in which nothing more than in the list itself may stand.
func inLists(around string) (l []string) {
	for _, in := range []string{"$", "if 1 { $ }", "if 1 { } else { $ }", "while 1 { $ }", "if 1 { var c int; } else { while 0 { if 0 { $ } } }", "if 1 { var c int = 2; } $", "while 0 { if 0 { $ } var c int; }"} {
		l = append(l, strings.Replace(around, "$", in, 1))
	}
	return l
}

// inThreads are surroundings in a thread, in no atomic block.
func inThreads() []string {
	return append(inLists("thread { $ }"), "thread { } thread { $ } thread { }", "thread { idle(); atomic { s = 1; } $ atomic { s = 2; } }", "thread { while 1 { atomic { if 1 { s = 1; } } $ } }", "thread { if 1 { atomic { } } else { $ } }")
}

// inBlocks are surroundings in an atomic block.
func inBlocks() []string {
	l := inLists("thread { atomic { $ } }")
	l = append(l, inLists("func in(p int) { print p; atomic { $ } }")...)
	return append(l, "thread { if 1 { while 1 { atomic { $ } } } }", "thread { } thread { atomic { s = 1; } atomic { if s { $ } } }", "func in() { if 1 { } else { atomic { while s { $ } } } }", "func on() { atomic { } } func in() { on(); on(); atomic { print 1; $ print 2; } }")
}

// inTouching are surroundings in a function that touches.
func inTouching() []string {
	l := inLists("func in(p int) { s = p; $ }")
	return append(l, "func in() { $ s = 1; }", "func in() { $ gets(1); }", "func in() { if 1 { $ } else { touch(); } }", "func in() { while s { print 1; $ } }", "func in() { print get(); if 0 { } else { $ } }", "func in() { on(); $ } func on() { take(1, new r, nil); }", "func in() { print num(1 + e[0]); $ }")
}

// inFuncs are surroundings in a function that neither touches nor has a Result, in no atomic block.
func inFuncs() []string {
	return append(inLists("func in(p int, q r) { $ }"), "func in() { atomic { s = 1; touch(); } $ atomic { s = 2; } } thread { in(); in(); }", "func in() { if 1 { tell(1); } print num(5); $ } func on() { in(); } thread { on(); }")
}
