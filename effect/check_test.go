package effect_test

import (
	"strings"
	"testing"

	"turnstile/api"
)

// silent are statements that touch nothing, open nothing and do not return.
func silent() []string {
	return []string{
		"print 1;", "var w int = 5; w = -w + num(w); print !w;", "var w r; w = nil; w = w; print w == nil;", "var w [2]int = nil; take(1, nil, w); print same(nil, nil);",
		"if 1 { } else { while num(0) { tell(1); } }", "idle(); num(1); tells(num(2)); take(num(num(1)), nil, nil);",
		// Names that other things have too: fields, records, functions.
		"var x int = 1; var n r; var r int = x; var touch int = r; touch = x; print touch; var open int; if open { n = nil; }",
	}
}

// touching are statements that touch what is shared: by each way to touch, in each part of a statement.
func touching() []string {
	return []string{
		"#s = 1;", "#e = nil;", "#print s;", "#var w int = s;", "#var w r = g;", "var w r; #w = g;", "#while s { }", "#if s { } else { }", "#while !s { print 1; }", "#if g == nil { }", "#print nil != e;",
		"#num(s);", "#take(1, g, nil);", "#take(num(-num(s)), nil, nil);", "#print 0 && s;", "#print 1 + 2 * 3 - s;",
		"var w r; #print w.x;", "var w r; #w.x = 1;", "var w r; #w.n = w;", "var w r; #w = w.n;", "var w r; #var v int = w.n.x;", "var w r; #print -num(w.n.x);", "var w r; #if w.x { }", "var w r; #while 0 && w.x { }", "var w r; #take(1, w.n, nil);",
		"var w [2]int; #w[0] = 1;", "var w [2]int; #print w[1];", "var w [2]int; #var v int = 5 + w[0];", "var w [2]r; #print 1 || w[0] == nil;", "var w [2]int; #num(w[0]);", "var w [2]r; var v r; #v = w[1];", "var w [2]int; #if w[0] < 1 { } else { print 1; }",
		"#var w r = new r;", "#var w [2]int = new [2]int;", "#var w [2]r = new [2]r;", "var w r; #w = new r;", "#print new r == nil;", "#take(1, new r, nil);", "#take(1, nil, new [2]int);", "#same(nil, new r);", "#while new r != nil { }",
		"#touch();", "#get();", "#gets(1);", "#make();", "#print get();", "#print gets(2);", "#var w int = 1 - get();", "var w int; #w = gets(w);", "var w r; #w = make();", "#if get() { }", "#while gets(0) { }",
		"#num(get());", "#print num(1) * num(num(-get()));", "#same(nil, make());", "#tell(get());", "#tell(num(gets(1)));",
	}
}

// opening are statements that may not stand where a block is open, or may be.
func opening() []string {
	return []string{
		"#atomic { }", "#atomic { s = 1; }", "#atomic { atomic { } }", "#atomic { open(1); }", "#open(1);", "#opens();", "#both();", "#open(num(num(2)));", "if 1 { #atomic { } }", "if 1 { } else { while 1 { #both(); } }",
		"print 1; #open(1); atomic { }", "tell(1); if 1 { tell(2); } else { tell(3); } #opens(); open(1);",
	}
}

// unmarked are rows in whose surroundings nothing is wrong.
func unmarked(rows []string) (l []string) {
	for _, row := range rows {
		l = append(l, strings.ReplaceAll(row, "#", ""))
	}
	return l
}

func TestNothingWrong(t *testing.T) {
	testEach(t, api.OK, "", "thread { }", "thread { } thread { } thread { } thread { }", "func f() { }", "record r { x int; } shared n r;", things, wholeText)
	for _, around := range [][]string{inThreads(), inBlocks(), inTouching(), inFuncs()} {
		testStmts(t, around, api.OK, silent()...)
	}
}

// TestTouching holds that a thread touches nothing outside of its atomic blocks, and that there, and in functions, all may be touched.
func TestTouching(t *testing.T) {
	testStmts(t, inThreads(), api.ErrEffect, touching()...)
	testStmts(t, inBlocks(), api.OK, unmarked(touching())...)
	testStmts(t, inTouching(), api.OK, unmarked(touching())...)
	testStmts(t, []string{"func in() { $ }", "func in() { if 1 { } else { $ } }"}, api.OK, unmarked(touching())...)
	testStmts(t, inThreads(), api.ErrEffect,
		"atomic { s = 1; } #s = 2;", "if 1 { atomic { } } else { #s = 1; }", "while 1 { atomic { touch(); } #touch(); }", "#if s { atomic { s = 1; } }", "if 1 { #s = 1; } else { atomic { s = 1; } s = 2; }", "#print get(); touch();", "#open(s);", "#open(get());",
	)
}

// TestOpening holds that no atomic block stands or opens within another one, or within what touches; and that elsewhere it may.
func TestOpening(t *testing.T) {
	testStmts(t, inBlocks(), api.ErrEffect, opening()...)
	testStmts(t, inTouching(), api.ErrEffect, opening()...)
	right := []string{"atomic { }", "atomic { s = 1; } atomic { touch(); }", "open(1); opens(); both();", "if 1 { open(1); } else { while 1 { atomic { print get(); } } }", "while num(1) { opens(); } open(num(num(2)));"}
	testStmts(t, inThreads(), api.OK, right...)
	testStmts(t, inFuncs(), api.OK, right...)
}

// TestOpeningInOperands holds calls that open in every part of a statement. What they call stands behind, where its own fault is later than theirs: whatever has a Result must not tell.
func TestOpeningInOperands(t *testing.T) {
	const behind = " func late(a int) int { atomic { } return a; } func later() r { late(1); return nil; } func latest() [2]int { open(1); return nil; }"
	for _, row := range []string{
		"#late(1);", "#later();", "#latest();", "#print late(1);", "#print -late(1);", "#print 1 + late(1);", "#print num(1) && num(num(late(2)));", "#if late(1) { }", "#while !late(1) { s = 1; }",
		"#var w int = late(1);", "#var w r = later();", "#g = later();", "#s = late(1);", "#e[late(0)] = 1;", "#e[0] = late(1);", "#later().x = 1;", "#latest()[0] = 1;", "#later().n.n = nil;", "#l[num(late(1))] = nil;", "#l[0].n = later();",
		"#take(1, later(), nil);", "#take(1, nil, latest());", "#print 2 * latest()[1];", "#num(later().x);", "#print later() == nil;", "#tell(late(1));", "#l[late(1)].x = num(1);",
	} {
		testEach(t, api.ErrEffect,
			things+"func in() { atomic { print 1; "+row+" } }"+behind, things+"func in() { s = 1; "+row+" }"+behind,
			things+"func in() { if 1 { "+row+" } s = 1; }"+behind, things+"func in() { print 1; atomic { if 1 { s = 1; } else { "+row+" } } }"+behind,
		)
	}
	// What returns a value has a Result, so that the function's own fault comes first.
	testEach(t, api.ErrEffect, things+"#func in() int { s = 1; return late(1); }"+behind, things+"#func in() r { s = 1; if 1 { return later(); } }"+behind)
	// Where such a call may stand the first fault is that of what is called.
	testEach(t, api.ErrEffect, things+"func in() { late(1); print late(1); } #func late(a int) int { atomic { } return a; }")
}

// TestReturns holds that return stands in functions alone, and not within an atomic block.
func TestReturns(t *testing.T) {
	testStmts(t, inThreads(), api.ErrEffect, "#return;", "print 1; #return; return;", "if 1 { #return; }", "idle(); while 1 { if 1 { } else { #return; } }", "atomic { print 1; #return; }", "atomic { if 1 { #return; } else { return; } }")
	testStmts(t, inBlocks(), api.ErrEffect, "#return;", "print 1; s = 1; #return; return;", "if 1 { #return; }", "idle(); while 1 { if 1 { } else { #return; } }")
	right := []string{"return;", "print 1; return; print 2; return;", "if 1 { return; } else { while 1 { return; } }"}
	testStmts(t, inTouching(), api.OK, right...)
	testStmts(t, inFuncs(), api.OK, right...)
	testStmts(t, inFuncs(), api.OK, "atomic { } return;", "if 1 { atomic { } return; } else { return; } atomic { }", "open(1); return;")
	testStmts(t, inFuncs(), api.ErrEffect, "return; atomic { #return; }", "if 1 { return; } else { atomic { while 1 { print 1; #return; } } }", "atomic { } while 1 { atomic { if 1 { } else { if 2 { #return; } } } return; }")
	testEach(t, api.OK, "func f(a int) int { if a { return 1; } else { while a { return a; } } return f1(); } func f1() int { return 2; } thread { print f(1); }", "record r { x int; } func f() r { return new r; } func g() [2]r { return nil; }")
}

// TestResults holds that a function with a Result does not tell.
func TestResults(t *testing.T) {
	const others = " func tell() { print 1; } func tells() { if 1 { tell(); } } func open() { atomic { } } func opens() { while 1 { open(); } } "
	for _, result := range []string{"int", "r", "[2]int", "[3]r"} {
		for _, body := range []string{
			"print 1;", "if 1 { print 1; }", "if 1 { } else { print 1; }", "while 1 { if 1 { } print 1; }", "atomic { }", "atomic { s = 1; print 1; }", "while 1 { if 1 { } else { atomic { } } }",
			"tell();", "tells();", "open();", "opens();", "if 1 { } else { tell(); }", "while 1 { var x int; opens(); }", "s = 1; tells();", "atomic { tell(); }", "atomic { atomic { } }", "print s; atomic { return; }",
		} {
			body = strings.ReplaceAll(body, "return;", "print 2;")
			f := "func in(p int) " + result + " { " + body + " }"
			testEach(t, api.ErrEffect, "record r { x int; } shared s int;"+others+"#"+f, "#"+f+others+"record r { x int; } shared s int;", "thread { return; } func tellall() { tell(); } #"+f+others+"record r { x int; } shared s int;")
			// One that calls it stands ahead of it: it is told first.
			testEach(t, api.ErrEffect, "#func on() int { in(1); } record r { x int; } shared s int;"+f+others)
		}
		for _, body := range []string{"", "s = 1;", "var x int = s; while x { x = x - e[0]; }", "return get();", "if get() != new r { } else { g = nil; }"} {
			if result != "r" {
				body = strings.ReplaceAll(body, "return get();", "get();")
			}
			testEach(t, api.OK, "record r { x int; } shared s int; shared g r; shared e [2]int; func get() r { return g; }"+others+"func in(p int) "+result+" { "+body+" }")
		}
	}
	testEach(t, api.OK, "func f() { print 1; }", "func f() { g(); } func g() { print f1(); } func f1() int { return 1; }", "func f(a int) { atomic { print a; } print a; } thread { f(1); }")
	testEach(t, api.ErrEffect, "#func f() int { return g(); } func g() int { print 1; return 1; }", "#func f() int { print g(); return 1; } func g() int { return 1; }", "func h() int { return 1; } #func f() int { return h() + g(1, h()); } func g(a int, b int) int { k(a); } func k(a int) { print a; }")
}
