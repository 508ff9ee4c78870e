package parse_test

import (
	"strings"
	"testing"

	"turnstile/api"
)

// lines is so many times a text, each on a line of its own.
func lines(n int, text string) string { return strings.Repeat(text+"\n", n) }

// TestOpenBrackets holds the 256th bracket that is open, and the 257th, of each kind and wherever one may stand.
func TestOpenBrackets(t *testing.T) {
	less := "thread {\n" + lines(254, "atomic {")
	most := less + "if a {\n"
	for _, s := range []string{
		"atomic#{ }", "if a#{ }", "while a#{ }", "var x#[2]int;", "var x r =#(a);", "#(a) = b;", "#(a).f = b;", "f#();", "a#[b] = c;", "a =#(b);", "a = b#[c];",
		"a = f#(b);", "print a +#(b);", "return new#[2]int;", "print -#(a);", "print nil#[a];", "a.f#[b].f = c;",
	} {
		ahead, behind, _ := strings.Cut(s, "#")
		testError(t, most+ahead+"\n"+behind, 257, api.ErrLimit)
		testError(t, most+ahead+"\n"+behind[:1], 257, api.ErrLimit)
		// One less may stand there, again and again: what is wrong is what stands behind.
		testError(t, less+lines(3, ahead+behind)+";", 258, api.ErrSyntax)
	}
	for _, s := range []string{"#{ }", "#[2]int", "a#{ }", "print#{", "print#[2]", "print 5#(a)", "new r#(a)", "var x r#[2]", "var x#(2)", "atomic#(a)", "atomic#[a]", "if#{ }", "return#{", "a.#(f)", "print new#(r)"} {
		testError(t, most+strings.Replace(s, "#", "\n", 1), 257, api.ErrSyntax)
	}
}

// TestBracketsCountTogether holds that those of a kind are not counted by themselves.
func TestBracketsCountTogether(t *testing.T) {
	most := "func f(a [2]int) [2]int {\n" + lines(55, "while a {") + "print\n" + lines(50, "(") + lines(50, "f(") + lines(50, "a[") + lines(49, "f(a, b[c], g(), (a),") + "(\n"
	testError(t, most+"*", 257, api.ErrSyntax)
	testError(t, most+"a\n[", 258, api.ErrLimit)
	testError(t, most+"a\n.f\n(", 259, api.ErrSyntax)
	testError(t, most+"a)\n[\n)", 259, api.ErrSyntax)
	testError(t, most+"a)\n[\n(", 259, api.ErrLimit)
}

// TestSignsInARow holds the 256th - or ! ahead of an operand, and the 257th: a number's own is one of them, one between operands is none.
func TestSignsInARow(t *testing.T) {
	for _, ahead := range []string{"print\n", "a =\n", "\n", "a -\n", "print a !=\n", "print -(\n", "if\n", "a[\n", "f(\n"} {
		for _, signs := range []string{"-", "!"} {
			text := "thread {\n" + ahead + lines(256, signs)
			testError(t, text+"*", 258, api.ErrSyntax)
			testError(t, text+"-", 258, api.ErrLimit)
			testError(t, text+"!", 258, api.ErrLimit)
			testError(t, text+"- 5\n*", 258, api.ErrLimit)
			testError(t, text+"a\n- *", 259, api.ErrSyntax)
			testError(t, text+"a\n!", 259, api.ErrSyntax)
			testError(t, text+"(\n-\n*", 260, api.ErrSyntax)
		}
	}
}

// TestLimitsOfTrees holds each limit that show asks, and one more, with the line of the place: the # is that of its line.
func TestLimitsOfTrees(t *testing.T) {
	fields, params, shared := lines(15, "a int;"), strings.Repeat("a int,\n", 15), lines(1023, "shared a int;")
	atomics, ends := lines(14, "atomic {"), lines(14, "}")
	items := "thread {\n" + lines(511, "print 1;")
	rows := []struct{ most, more string }{
		{lines(16, "record r { a int; }"), lines(16, "record r { a int; }") + "#record r\n{ a [65]int; }"},
		{"thread { }\nrecord r {\n" + fields + "a int; }", "thread { }\n#record r {\n" + fields + "a int;\na int; }"},
		{lines(32, "func f() { }"), lines(32, "func f() { }") + "#func f()\n{ print new [65]int; }"},
		{"\nfunc f\n(" + params + "a int) { }", "\n#func f\n(" + params + "a int,\na int) { }"},
		{lines(4, "thread { }"), lines(4, "thread { }") + "#thread\n{ print\nnew [65]int; }"},
		{shared + "shared a int;", shared + "shared a int;\n#shared\na int;"},
		{shared + "func f() { }\nshared a int;", shared + "thread { }\nshared a int;\n#shared a int;\nrecord r { a int; }"},

		{"shared\na\n[64]int;", "\n#shared\na\n[65]int;"},
		{"shared a [64]r;", "shared a int; thread { }\n#shared a\n[9223372036854775807]r;"},
		{"record r { a int;\nb [64]int; }", "#record r { a int;\nb [65]int; }"},
		{"func f(a int,\nb [64]int) { }", "func f() { }\n#func f(a int,\nb [65]int) { print 1; }"},
		{"func f()\n[64]r { }", "#func f()\n[65]r {\nprint 1; }"},
		{"thread {\nvar a\n[64]int; }", "thread {\n#var a\n[65]int; }"},
		{"thread { print\nnew [64]int; }", "thread {\nprint 1; #print\nnew [65]int; }"},
		{"thread {\na\n= new [64]int; }", "thread {\n#a\n= new [65]int; }"},
		{"thread {\nif a {\nf(1, b[\nnew [64]int].f); } }", "thread {\nif a {\n#f(1, b[\nnew [65]int].f); } }"},
		{"thread { if a { } else {\nprint 1; return\nnew [64]r; } }", "thread { if a { } else {\nprint 1; #return\nnew [65]r; } }"},

		{"thread {\n" + atomics + "atomic {\nprint 1;\n}\n" + ends + "}", "thread {\n" + atomics + "atomic {\nif 1 {\n#print\n1;\n}\n}\n" + ends + "}"},
		{"func f() {\n" + atomics + "if 1 { } else {\nprint 1;\n}\n" + ends + "}", "func f() {\n" + atomics + "if 1 { } else {\nwhile 1 { }\nwhile 1 {\n#return\n;\n}\n}\n" + ends + "}"},
		{"thread {\nprint\n" + lines(15, "!") + "a; }", "thread {\n#print\n" + lines(16, "!") + "a;\nprint 1; }"},
		{"thread {\na =\na" + strings.Repeat("\n+ a", 15) + "; }", "thread {\n#a =\na" + strings.Repeat("\n+ a", 16) + "; }"},
		{"thread {\na" + strings.Repeat("\n.f", 15) + " = 1; }", "thread {\nprint 1;\n#a" + strings.Repeat("\n.f", 16) + " = 1; }"},
		{"thread {\nwhile\n" + strings.Repeat("f(1,\n", 15) + "1" + strings.Repeat(")", 15) + " { } }", "thread {\n#while\n" + strings.Repeat("f(1,\n", 16) + "1" + strings.Repeat(")", 16) + " {\nprint 1; } }"},

		{items + "print 1; }", items + "print 1;\n#return; }"},
		{items + "a(); }", items + "\n#a\n(1); }"},
		{items + "return; }\nthread { return; }", items + "return; }\nthread { return;\n#return; }"},
		{items + "if 1 { } }", items + "if 1\n{\n#f();\n} }"},
		{items + "} func f() { return; return; }", "thread {\n" + lines(510, "print 1;") + "#print\n1; } func f() { return;\nprint\n1; }"},
		{"thread { print f(1" + strings.Repeat(",\n1", 1021) + "); }", "thread { return;\n#print f(1" + strings.Repeat(",\n1", 1021) + "); }"},
	}
	for _, r := range rows {
		testError(t, r.most, 0, api.OK)
		ahead, behind, _ := strings.Cut(r.more, "#")
		testError(t, ahead+behind, strings.Count(ahead, "\n"), api.ErrLimit)
	}
}

// TestWhichFaultIsTold holds the order of errors: those of tokens, those of the grammar as they stand in the text, those of the tree in the order of places.
func TestWhichFaultIsTold(t *testing.T) {
	long := strings.Repeat(" ", 65536)
	rows := []struct {
		text string
		line int
		e    api.Errno
	}{
		{"#", 0, api.ErrToken}, {"thread {\n&\n}", 1, api.ErrToken}, {"thread { print 9223372036854775809; }", 0, api.ErrToken}, {"\n\nthread { print 05; }\n#", 2, api.ErrToken}, {"// #\n_", 1, api.ErrToken},
		{"}\n#", 1, api.ErrToken}, {"thread { } }\nshared a [65]int;\n#\n#", 2, api.ErrToken}, {"shared a [65]int;\n\n#", 2, api.ErrToken}, {strings.Repeat("(\n", 300) + "#", 300, api.ErrToken},
		{"#" + long, 0, api.ErrLimit}, {"\n}" + long, 0, api.ErrLimit}, {"\n\n" + long, 0, api.ErrLimit},
		{"thread {\nprint a b;\nprint a b; }", 1, api.ErrSyntax}, {"record r {\n}\nrecord { }", 1, api.ErrSyntax}, {"int\n}", 0, api.ErrSyntax}, {"thread { }\n}\n}", 1, api.ErrSyntax},
		{"shared a [65]int;\n}", 1, api.ErrSyntax}, {strings.Repeat("thread { }\n", 5) + "thread", 5, api.ErrSyntax}, {"thread { print " + strings.Repeat("!", 20) + "a\n}", 1, api.ErrSyntax}, {"thread {\n" + lines(1025, "return;"), 1026, api.ErrSyntax},
		{"thread {\n" + lines(256, "atomic {"), 256, api.ErrLimit}, {"thread {\n" + lines(256, "atomic {") + "}}\n}\n*", 256, api.ErrLimit}, {"thread {\n*\n" + lines(256, "atomic {"), 1, api.ErrSyntax},
		{"thread {\nprint -\n" + lines(256, "!") + "*", 257, api.ErrLimit}, {"thread { print * " + lines(257, "!"), 0, api.ErrSyntax}, {"shared a [65]int; thread { print\n" + lines(257, "-"), 257, api.ErrLimit},
		{"thread {\nprint new [65]int; }\nshared a\n[65]int;\nrecord r\n{ x [65]int;\n}", 4, api.ErrLimit}, {"thread { print new [65]int; }\nshared a [65]int;", 1, api.ErrLimit}, {"thread { print new [65]int; }\nfunc f() {\nprint new [65]int; }", 2, api.ErrLimit},
		{"func f() {\nprint new [65]int; }\nfunc g(a [65]int) { }\n", 1, api.ErrLimit}, {"func g(a [65]int) {\nprint new [65]int; }", 0, api.ErrLimit}, {"thread {\nif a {\nprint new [65]int; } else {\nprint new [65]int; } }", 2, api.ErrLimit},
		{"thread {\nif a {\nprint 1;\nprint new [65]int; } else {\nprint 1;\nprint 1; } }", 3, api.ErrLimit}, {"thread {\nif a {\nprint 1;\nprint 1; } else {\nprint new [65]int;\nprint 1; } }", 4, api.ErrLimit},
		{"thread {\nif new [65]int {\nprint new [65]int; } }", 1, api.ErrLimit}, {"thread {\nif a { } else {\nprint new [65]int; }\nprint new [65]int; }", 2, api.ErrLimit}, {"thread {\n}\nthread {\nprint 1;\nprint new [65]int; }\nthread { print new [65]int; }", 4, api.ErrLimit},
		{strings.Repeat("thread { }\n", 5) + "thread {\nprint new [65]int; }", 4, api.ErrLimit}, {"thread { }\nthread {\nprint new [65]int; }\n" + strings.Repeat("thread { }\n", 3), 2, api.ErrLimit},
	}
	for _, r := range rows {
		testError(t, r.text, r.line, r.e)
	}
}

// TestLongTexts holds that texts as long as they may be are read to their end, whatever they nest.
func TestLongTexts(t *testing.T) {
	fill := func(ahead, part, behind string) string {
		return ahead + strings.Repeat(part, (65536-len(ahead)-len(behind))/len(part)) + behind
	}
	for _, s := range []string{
		fill("thread{", "f();", "}"), fill("thread{", "print 1;", "}"), fill("thread{", "if a{}else{}", "}"), fill("thread{"+strings.Repeat("atomic{", 100), "f();", strings.Repeat("}", 101)),
		fill("thread{", strings.Repeat("atomic{", 255)+strings.Repeat("}", 255), "}"), fill("thread{print a", "+a", ";}"), fill("thread{print a", ".f", ";}"), fill("thread{print a", "[0]", ";}"),
		fill("thread{f(a", ",a", ");}"), fill("thread{print a", "+"+strings.Repeat("-", 256)+"a", ";}"), fill("", "thread{}", ""), fill("", "shared a int;", ""), fill("", "func f(){}", ""),
		fill("", "record r{a int;}", ""), fill("record r{", "a int;", "}"), fill("func f(a int", ",a int", "){}"),
	} {
		testError(t, s, 0, api.ErrLimit)
	}
	testError(t, strings.Repeat("{", 65536), 0, api.ErrSyntax)
	testError(t, fill("", "thread{", ""), 0, api.ErrSyntax)
	testExprError(t, strings.Repeat("(", 65536), api.ErrLimit)
	testExprError(t, strings.Repeat("-", 65536), api.ErrLimit)
	testExprError(t, fill("a", "+a", ""), api.ErrLimit)
	testError(t, "thread { print 1;"+strings.Repeat(" ", 65536-18)+"}", 0, api.OK)
	testError(t, "thread { print 1;"+strings.Repeat("\n", 65536-18)+"]", 65536-18, api.ErrSyntax)
	testError(t, "thread { print 1;"+strings.Repeat("\n", 65536-17), 65536-17, api.ErrSyntax)
}
