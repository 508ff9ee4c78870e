package tidy_test

import (
	"reflect"
	"slices"
	"testing"

	"turnstile/api"
	"turnstile/lower"
	"turnstile/parse"
	"turnstile/source"
)

// programs are texts of the language of all sorts.
func programs() []string {
	const things = "record r { x int; n r; a [3]int; } shared n int; shared m int; shared g r; shared l [4]r; shared v [8]int;"
	return []string{
		"shared n int; thread { atomic { n = n + 1; print n; } } thread { atomic { n = n + 1; print n; } }",
		"thread { print 1 / 0; }",
		"record r { x int; } shared r1 r; thread { atomic { var p r = new r; p.x = 5; r1 = p; } } thread { atomic { if r1 != nil { print r1.x; } } }",
		"thread { atomic { print 1; print 2; } print 3; }",
		"thread { var i int = 0; while i < 5 { i = i + 1; if i == 3 { print 0 - i; } else { print i; } } }",
		"thread { atomic { print 7; var a [4]int = new [4]int; a[4] = 1; } }",
		"func f(x int) int { if x { return 5; } } thread { print f(1); print f(0); }",
		"func f(x int) int { if x < 2 { return x; } var a int = 0; var b int = 1; while x > 1 { var c int = a + b; a = b; b = c; x = x - 1; } return b; } thread { var i int = 0; while i < 12 { print f(i); i = i + 1; } }",
		"thread { if 0 { print 1; } while 0 { print 2; } if 1 { print 3; } else { print 4; } print 1 && 0; print 0 || 2; print !5; print -3 % 2; }",
		"thread { var a int = 3; var b int = a * a; if b == 9 { print b; } else { print a; } var c int = b; c = c; print c / (b - 9); print 1; }",
		things + "func put(at int, p r) { l[at] = p; } func get(at int) r { return l[at]; } thread { atomic { l = new [4]r; var i int = 0; while i < 4 { var p r = new r; p.x = i * i; if i > 0 { p.n = get(i - 1); } put(i, p); i = i + 1; } } atomic { print get(3).n.n.x; } atomic { print get(0).n.x; } }",
		things + "thread { atomic { if v == nil { v = new [8]int; } } var i int = 0; while i < 8 { atomic { v[i] = v[i] + i; n = n + v[i]; print n; } i = i + 1; } } thread { atomic { if v == nil { v = new [8]int; } } var j int = 8; while j > 0 { j = j - 1; atomic { v[j] = v[j] + 10; m = m + v[j]; if m > 60 { print m; } } } }",
		things + "thread { var done int = 0; while !done { atomic { if n > 2 { done = 1; print n; } } } } thread { while 1 { atomic { n = n + 1; } } }",
		things + "thread { atomic { g = new r; g.a = new [3]int; g.a[2] = 8; g.n = g; } print 1; atomic { print g.n.n.a[2] / g.x; } } thread { atomic { if g != nil { g.x = 2; } } print 4; }",
	}
}

// TestOfTheLanguage holds that programs of the language do what they say, when their graphs are tidied; and that there is less in them. (P14.2, P14.3, P14.4)
func TestOfTheLanguage(t *testing.T) {
	fewer := 0
	for _, text := range programs() {
		p, _, line, e := parse.Program(text)
		if e != api.OK {
			t.Fatalf("%s: parse finds the error %d at %d", text, e, line)
		}
		c, e := lower.Lower(p)
		if e != api.OK {
			t.Fatalf("%s: lower finds the error %d", text, e)
		}
		testAll(t, c)
		less := tidied(t, c)
		for i, g := range less.Threads {
			if len(instructions(g))+len(g.Blocks) < len(instructions(c.Threads[i]))+len(c.Threads[i].Blocks) {
				fewer++
			}
			if !guarded(g) {
				t.Errorf("%s: the thread %d is not guarded: %s", text, i, tell(g))
			}
		}
		m := newMaker(144)
		for range 60 {
			picks := m.picks(len(p.Threads))
			testSame(t, c, less, picks)
			want, short, e := source.Run(p, picks, plenty)
			if got := run(t, less, picks, plenty); e != api.OK || !short && (got.Short || !sameSeen(got.Seen, want)) {
				t.Errorf("%s\nwith the picks %v: %+v, not %+v (error %d)", text, picks, got.Seen, want, e)
			}
		}
	}
	if fewer < 10 {
		t.Errorf("%d threads have less in them", fewer)
	}
}

func sameSeen(a, b []api.Seen) bool {
	return slices.EqualFunc(a, b, func(x, y api.Seen) bool { return slices.Equal(x.Out, y.Out) && x.End == y.End })
}

// guarded says whether right ahead of each load and store it is asked whether the reference is nil, and behind that whether the index, if there is one, is one.
func guarded(g api.Graph) bool {
	for _, b := range g.Blocks {
		for n, i := range b.Ins {
			if !slices.Contains([]api.InsKind{api.InLoad, api.InStore, api.InOwnLoad, api.InOwnStore}, i.Kind) {
				continue
			}
			if i.C >= 0 {
				if n--; n < 0 || b.Ins[n].Kind != api.InIndex || b.Ins[n].B != i.C {
					return false
				}
			}
			if n--; n < 0 || b.Ins[n] != (api.Ins{Kind: api.InNil, B: i.B}) {
				return false
			}
		}
	}
	return true
}

// TestEmptyThread holds that nothing is left of what does nothing. (P14.4)
func TestEmptyThread(t *testing.T) {
	for _, text := range []string{
		"thread { }",
		"func f(x int) int { return x * x; } thread { var a int = f(3); var b int = f(a); if b { a = 4; } }",
		"thread { if 0 { print 1; } while 0 { print 2; } }",
		"thread { if 1 < 2 { } else { print 1; } }",
	} {
		p, _, _, _ := parse.Program(text)
		c, e := lower.Lower(p)
		if e != api.OK {
			t.Fatalf("%s: lower finds the error %d", text, e)
		}
		want := []api.Block{{Last: api.LaHalt}}
		if less := tidied(t, c); !reflect.DeepEqual(less.Threads[0].Blocks, want) {
			t.Errorf("%s becomes %s", text, tellAll(less))
		}
	}
}
