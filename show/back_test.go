package show_test

import (
	"math/rand"
	"reflect"
	"testing"

	"turnstile/api"
	"turnstile/parse"
	"turnstile/show"
)

// smaller are all expressions with one of the leaves at each place, so many levels of them.
func smaller(levels int, leaves []api.Expr) []api.Expr {
	l := leaves
	for range levels {
		next := append([]api.Expr{}, leaves...)
		for _, x := range l {
			next = append(next, neg(x), not(x), field(x, "f"), call("a", x))
			for _, y := range l {
				next = append(next, two(api.ExSub, x, y), two(api.ExLt, x, y), index(x, y), call("a", x, y))
			}
		}
		l = next
	}
	return l
}

// TestSmallExpressions holds of all small expressions that no two have one text, and that it is the language's text for each.
func TestSmallExpressions(t *testing.T) {
	leaves := []api.Expr{number(5), number(-5), a, nilExpr, made(refType), made(intArray), call("a")}
	seen := map[string]bool{}
	for _, x := range smaller(2, leaves) {
		s, e := show.Expr(x)
		if e != api.OK || seen[s] {
			t.Fatalf("%v: %q and the error %d; told before: %v", x, s, e, seen[s])
		}
		seen[s] = true
		if y, e := parse.Expr(s); e != api.OK || !reflect.DeepEqual(x, y) {
			t.Fatalf("%v is told as %q, which is %v with the error %d", x, s, y, e)
		}
	}
	if len(seen) < 100000 {
		t.Errorf("%d texts", len(seen))
	}
}

// maker makes trees that may be, always the same ones.
type maker struct {
	*rand.Rand
	items int
}

func (m *maker) name() string {
	return []string{"a", "b", "r", "f", "x_1", "int_", longName, "newr"}[m.Intn(8)]
}

func (m *maker) typeOf() api.Type {
	t := api.Type{Kind: api.TypeKind(1 + m.Intn(3))}
	if t.Kind == api.TyRef || t.Kind == api.TyArray && m.Intn(2) == 0 {
		t.Name = m.name()
	}
	if t.Kind == api.TyArray {
		t.N = 1 + m.Intn(64)
	}
	return t
}

func (m *maker) leaf() api.Expr {
	switch m.Intn(5) {
	case 0:
		return number([]int64{0, 1, -1, 5, -5, least, greatest, least + 1, m.Int63()}[m.Intn(9)])
	case 1:
		return nilExpr
	case 2:
		t := m.typeOf()
		if t.Kind == api.TyInt {
			t = refType
		}
		return made(t)
	case 3:
		return call(m.name())
	}
	return name(m.name())
}

// expr is at most so deep, and stays within what a program may have.
func (m *maker) expr(deep int) api.Expr {
	m.items++
	if deep == 1 || m.items > 900 || m.Intn(4) == 0 {
		return m.leaf()
	}
	switch k := api.ExprKind(int(api.ExField) + m.Intn(int(api.ExOr-api.ExField)+1)); k {
	case api.ExField:
		return field(m.expr(deep-1), m.name())
	case api.ExNew:
		return m.leaf()
	case api.ExCall:
		x := call(m.name())
		for range m.Intn(4) {
			x.Args = append(x.Args, m.expr(deep-1))
		}
		return x
	case api.ExNeg, api.ExNot:
		return api.Expr{Kind: k, Args: []api.Expr{m.expr(deep - 1)}}
	default:
		return two(k, m.expr(deep-1), m.expr(deep-1))
	}
}

// place is what may be set.
func (m *maker) place(deep int) api.Expr {
	switch m.Intn(3) {
	case 0:
		return field(m.expr(deep-1), m.name())
	case 1:
		return index(m.expr(deep-1), m.expr(deep-1))
	}
	return name(m.name())
}

func (m *maker) list(deep int) []api.Stmt {
	var l []api.Stmt
	for range m.Intn(5) {
		if m.items < 900 && deep <= 16 {
			l = append(l, m.stmt(deep))
		}
	}
	return l
}

func (m *maker) stmt(deep int) api.Stmt {
	m.items++
	most := 2 + m.Intn(5)
	switch k := api.StmtKind(1 + m.Intn(int(api.StCall))); k {
	case api.StVar:
		s := variable(m.name(), m.typeOf(), api.Expr{})
		if m.Intn(2) == 0 {
			s.X = m.expr(most)
		}
		return s
	case api.StSet:
		return set(m.place(most), m.expr(most))
	case api.StIf:
		return branch(m.expr(most), m.list(deep+1), m.list(deep+1))
	case api.StWhile:
		return while(m.expr(most), m.list(deep+1)...)
	case api.StAtomic:
		return atomic(m.list(deep + 1)...)
	case api.StPrint:
		return print(m.expr(most))
	case api.StReturn:
		if m.Intn(2) == 0 {
			return back(api.Expr{})
		}
		return back(m.expr(most))
	default:
		x := call(m.name())
		for range m.Intn(4) {
			x.Args = append(x.Args, m.expr(most-1))
		}
		return called(x)
	}
}

func (m *maker) fields(least, most int) []api.Field {
	var l []api.Field
	for range least + m.Intn(most-least+1) {
		l = append(l, api.Field{Name: m.name(), Type: m.typeOf()})
	}
	return l
}

func (m *maker) program() api.Program {
	m.items = 0
	p := api.Program{Shared: m.fields(0, 3)}
	for range m.Intn(3) {
		p.Records = append(p.Records, api.Record{Name: m.name(), Fields: m.fields(1, 4)})
	}
	for range m.Intn(3) {
		f := api.Func{Name: m.name(), Params: m.fields(0, 3), Body: m.list(1)}
		if m.Intn(2) == 0 {
			f.Result = m.typeOf()
		}
		p.Funcs = append(p.Funcs, f)
	}
	for range m.Intn(4) {
		p.Threads = append(p.Threads, m.list(1))
	}
	return p
}

func TestProgramsComeBack(t *testing.T) {
	m := &maker{Rand: rand.New(rand.NewSource(3))}
	seen := map[string]api.Program{}
	for range 1500 {
		p := m.program()
		s, e := show.Program(p)
		if e == api.ErrLimit && show.Items(p) > 800 {
			continue
		}
		if e != api.OK {
			t.Fatalf("%v: the error %d", p, e)
		}
		if q, _, line, e := parse.Program(s); e != api.OK || !reflect.DeepEqual(p, q) {
			t.Fatalf("%v is told as\n%s\nwhich is %v with the error %d at %d", p, s, q, e, line)
		}
		if q, ok := seen[s]; ok && !reflect.DeepEqual(p, q) {
			t.Fatalf("two programs are told as\n%s", s)
		}
		seen[s] = p
	}
	if len(seen) < 1200 {
		t.Errorf("%d texts", len(seen))
	}
}

func TestExpressionsComeBack(t *testing.T) {
	m := &maker{Rand: rand.New(rand.NewSource(4))}
	for range 5000 {
		m.items = 0
		x := m.expr(1 + m.Intn(16))
		s, e := show.Expr(x)
		if e != api.OK && show.Items(thread(print(x))) <= 1024 {
			t.Fatalf("%v: the error %d", x, e)
		}
		if y, read := parse.Expr(s); e == api.OK && (read != api.OK || !reflect.DeepEqual(x, y)) {
			t.Fatalf("%v is told as %q, which is %v with the error %d", x, s, y, read)
		}
	}
}

// TestOneTextOneTree holds that trees that differ in one thing are told as two texts.
func TestOneTextOneTree(t *testing.T) {
	alike := []api.Program{
		{}, {Threads: make([][]api.Stmt, 1)}, {Threads: make([][]api.Stmt, 2)}, {Funcs: []api.Func{{Name: "thread_"}}},
		{Funcs: []api.Func{{Name: "f", Result: refType}}}, {Funcs: []api.Func{{Name: "f", Params: []api.Field{{Name: "f", Type: refType}}}}},
		{Shared: []api.Field{{Name: "r", Type: intType}}}, {Records: []api.Record{{Name: "r", Fields: []api.Field{{Name: "r", Type: intType}}}}},
		{Threads: [][]api.Stmt{{atomic()}, nil}}, {Threads: [][]api.Stmt{nil, {atomic()}}}, thread(atomic(atomic())), thread(atomic(), atomic()),
		thread(branch(a, nil, []api.Stmt{print(a)})), thread(branch(a, []api.Stmt{print(a)}, nil)), thread(branch(a, nil, nil), print(a)),
		thread(branch(not(a), []api.Stmt{print(a)}, nil)), thread(while(a, print(a))), thread(while(a), print(a)),
		thread(back(a)), thread(back(api.Expr{}), called(call("a"))), thread(back(call("a"))), thread(called(call("a"))), thread(called(call("a", a))),
		thread(set(a, b)), thread(set(b, a)), thread(print(two(api.ExEq, a, b))), thread(variable("a", refType, b)), thread(variable("a", refType, api.Expr{})),
		thread(print(number(-5))), thread(print(neg(number(5)))), thread(print(neg(number(-5)))), thread(print(field(number(-5), "f"))), thread(print(neg(field(number(5), "f")))),
		thread(print(two(api.ExSub, a, number(5)))), thread(print(two(api.ExAdd, a, number(-5)))), thread(print(two(api.ExSub, a, number(-5)))),
		thread(print(index(made(intArray), a))), thread(print(made(intArray))), thread(print(field(made(refType), "f"))), thread(print(made(refType))),
	}
	for i, p := range alike {
		s, e := show.Program(p)
		if q, _, line, read := parse.Program(s); e != api.OK || read != api.OK || !reflect.DeepEqual(p, q) {
			t.Errorf("the error %d, and %v is told as\n%s\nwhich is %v with the error %d at %d", e, p, s, q, read, line)
		}
		for _, q := range alike[:i] {
			if other, _ := show.Program(q); other == s {
				t.Errorf("%v and %v are both told as %s", p, q, s)
			}
		}
	}
}
