package shape_test

import (
	"strings"
	"testing"

	"turnstile/api"
	"turnstile/parse"
	"turnstile/shape"
	"turnstile/types"
)

// read answers a text's tree, whatever types may have to say of it.
func read(t *testing.T, text string) api.Program {
	t.Helper()
	p, _, line, e := parse.Program(text)
	if e != api.OK {
		t.Fatalf("%s: parse finds the error %d at %d", text, e, line)
	}
	return p
}

// readTaken answers a text's tree, in which names and types fit.
func readTaken(t *testing.T, text string) api.Program {
	t.Helper()
	p := read(t, text)
	if place, e := types.Check(p); e != api.OK {
		t.Fatalf("%s: types finds the error %d at %d", text, e, place)
	}
	return p
}

// answer is what each of the calls answers.
type answer struct {
	n int
	e api.Errno
}

// is is an answer without an error.
func is(n int) answer { return answer{n, api.OK} }

// no is an answer of an error: nothing stands beside it.
func no(e api.Errno) answer { return answer{0, e} }

// ask is one call, and what it is given beside a program.
type ask struct {
	call          string
	name, another string
	t             api.Type
}

func words() ask { return ask{call: "words"} }

func shared(name string) ask { return ask{call: "shared", name: name} }

func size(t api.Type) ask { return ask{call: "size", t: t} }

func offset(record, field string) ask { return ask{call: "offset", name: record, another: field} }

// of answers what the call answers of a program.
func (a ask) of(p api.Program) (got answer) {
	switch a.call {
	case "words":
		got.n, got.e = shape.Words(p)
	case "shared":
		got.n, got.e = shape.Shared(p, a.name)
	case "size":
		got.n, got.e = shape.Size(p, a.t)
	case "offset":
		got.n, got.e = shape.Offset(p, a.name, a.another)
	}
	return got
}

func (a ask) test(t *testing.T, what any, p api.Program, want answer) {
	t.Helper()
	if got := a.of(p); got != want {
		t.Errorf("%v: %v: %d and the error %d, not %d and %d", what, a, got.n, got.e, want.n, want.e)
	}
}

// row is an ask and what is answered.
type row struct {
	ask  ask
	want answer
}

func testRows(t *testing.T, text string, rows ...row) {
	t.Helper()
	p := readTaken(t, text)
	for _, r := range rows {
		r.ask.test(t, text, p, r.want)
	}
}

func number() api.Type { return api.Type{Kind: api.TyInt} }

func ref(name string) api.Type { return api.Type{Kind: api.TyRef, Name: name} }

func array(n int, name string) api.Type { return api.Type{Kind: api.TyArray, Name: name, N: n} }

// wholeText has several things of each sort, fields and shared variables of each type, and names that begin alike or stand for things of several sorts.
const wholeText = `
shared i int;
record r { x int; n r; q q; a [2]int; l [3]r; k [64]q; }
func late(r r, x q) r { var i1 int = x.r.x; r.a = new [2]int; return r; }
record q { r r; }
shared p r; shared pp q; shared e [64]int;
record rr { e [1]rr; p int; i int; rr r; }
thread { var r r; var q int = 1; var rr rr; atomic { r = new r; pp = new q; pp.r = p; p = late(r, pp); rr = new rr; rr.e = new [1]rr; u = rr; i = q + e[q]; } }
shared l [3]r; shared u rr; shared k int;
func f() { late(nil, nil); }
thread { }
thread { var f int; var x1 int = f; print x1; f(); }
shared last [1]q;
record z9_z { z9_z z9_z; }
`

// asks are all kinds of calls with all that they may be asked of a program whose names are among these, or are none.
func asks(names []string) (l []ask) {
	l = append(l, words())
	for _, name := range names {
		l = append(l, shared(name))
		for _, another := range names {
			l = append(l, offset(name, another))
		}
	}
	for _, t := range someTypes(names) {
		l = append(l, size(t))
	}
	return l
}

// someNames are names that wholeText has, names that it has not, and texts that are no names.
func someNames() []string {
	return []string{
		"i", "r", "x", "n", "q", "a", "l", "k", "late", "p", "pp", "e", "rr", "u", "f", "last", "z9_z", "i1", "x1", "w", "z9_", "z9_z_", "main",
		"", "int", "nil", "record", "shared", "R", "_r", "9r", " r", "r ", "r.x", "r\x00", "\xff", "é", strings.Repeat("a", api.MaxName), strings.Repeat("a", api.MaxName+1),
	}
}

// someTypes are types of each kind, with each of these names and with lengths of all sorts, whether their form is right or not.
func someTypes(names []string) (l []api.Type) {
	for _, kind := range []api.TypeKind{api.TyNone, api.TyInt, api.TyRef, api.TyArray, api.TyArray + 1, 255} {
		for _, name := range names {
			for _, n := range []int{0, 1, 2, 3, 63, 64, 65, 66, -1, -64, 1 << 31, 1 << 32, 1<<63 - 1, -1 << 63} {
				l = append(l, api.Type{Kind: kind, Name: name, N: n})
			}
		}
	}
	return l
}
