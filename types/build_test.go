package types_test

import (
	"slices"
	"strings"
	"testing"

	"turnstile/api"
	"turnstile/parse"
	"turnstile/types"
)

// read answers a text's tree, and the place that begins behind the # in it: 0, if there is none.
func read(t *testing.T, text string) (p api.Program, place int) {
	t.Helper()
	ahead, behind, marked := strings.Cut(text, "#")
	if marked {
		// The first token behind the # stands on a line alone, so that no other place begins there.
		end := len(behind) - len(strings.TrimLeftFunc(behind, inName))
		end = max(end, 1)
		text = ahead + "\n" + behind[:end] + "\n" + behind[end:]
	}
	p, lines, line, e := parse.Program(text)
	if e != api.OK {
		t.Fatalf("%s: parse finds the error %d at %d", text, e, line)
	}
	if marked {
		place = slices.Index(lines, strings.Count(ahead, "\n")+1)
	}
	return p, place
}

func inName(c rune) bool { return 'a' <= c && c <= 'z' || '0' <= c && c <= '9' || c == '_' }

// testCheck holds what Check finds in a text's tree: the fault of the place behind the #, or nothing.
func testCheck(t *testing.T, text string, want api.Errno) {
	t.Helper()
	p, place := read(t, text)
	testTree(t, text, p, place, want)
}

func testTree(t *testing.T, what any, p api.Program, wantPlace int, want api.Errno) {
	t.Helper()
	if place, e := types.Check(p); place != wantPlace || e != want {
		t.Errorf("%v: the error %d at %d, not %d at %d", what, e, place, want, wantPlace)
	}
}

// row is a text in which a # stands ahead of the place that has the fault, if one has.
type row struct {
	text string
	want api.Errno
}

func testRows(t *testing.T, rows []row) {
	t.Helper()
	for _, r := range rows {
		testCheck(t, r.text, r.want)
	}
}

// testStmts holds of a row of statements what is found in them wherever they stand: $ is where they are laid.
func testStmts(t *testing.T, things string, rows []row) {
	t.Helper()
	for _, r := range rows {
		for _, around := range []string{
			"thread { $ }", "func in() { $ }", "thread { } func in(a1 int) { var a2 int; $ } thread { }",
			"thread { if 1 { $ } }", "thread { if 1 { } else { $ } }", "thread { while 1 { $ } }", "thread { atomic { $ } }",
			"func in() { print 1; while 1 { atomic { } if 1 { print 1; } else { print 2; $ } print 3; } }",
		} {
			testCheck(t, things+" "+strings.Replace(around, "$", r.text, 1), r.want)
		}
	}
}

// wholeText has every kind of thing, of type, of statement and of expression, and all fits.
const wholeText = `
record r { x int; n r; q q; a [2]int; l [3]r; k [3]q; }
record q { r r; y int; x [2]int; }
shared i int; shared p r; shared o q; shared e [2]int; shared l [3]r; shared k [3]q;
func none() { }
func one(x int) int { if x { return 5; } else { return -x; } }
func ref(a r, b q) r { var c r = a; if a == nil { return nil; } while b != nil { c = b.r; b = nil; } return c; }
func list(a [3]r, n int) [3]r { a[n] = nil; a[n].x = n; return a; }
func late(r r) { none(); r.x = last(r, 1).y; return; }
func last(r r, q int) q { return r.q; }
thread {
  var x int = one(1) + 2 * 3 - 4 / 5 % 6;
  var r r;
  var s [2]int = new [2]int;
  print x;
  atomic {
    var one int = -x;
    r = new r;
    p = ref(r, nil);
    p.n.n.q.r.l[one] = new r;
    e[x] = s[1] + e[0];
    o = new q;
    o.x[0] = o.y;
    l = list(new [3]r, !x);
    l[2].k = k;
    k = new [3]q;
    k[i].r.x = i;
  }
  if x == 1 && r != p || nil == l || !(nil != nil) { print x < 1; } else { var t int = x <= 2; print t > 3; }
  while x >= 4 { none(); one(x); ref(r, last(r, 1)); x = x - 1; }
  late(nil);
}
thread { }
thread { var y q = k[one(i)]; var x [3]q; x = k; if e == new [2]int { } return; }
`

// whole is the tree of wholeText, all of it new memory.
func whole(t *testing.T) api.Program {
	t.Helper()
	p, _ := read(t, wholeText)
	return p
}
