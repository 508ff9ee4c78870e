package effect_test

import (
	"math/rand"
	"slices"
	"strconv"
	"testing"

	"turnstile/api"
	"turnstile/effect"
	"turnstile/show"
)

// maker makes programs by chance in which names and types fit, most of them with few things where they may not stand.
type maker struct {
	*rand.Rand
	funcs []made
	// slips is in how many of a hundred cases what is made does not care whether it may stand there.
	slips  int
	locals int
}

// made is what a function is meant to be.
type made struct {
	name   string
	result bool
	sort   string
}

// place is where a part is made.
type place struct {
	// what may be done there: touch, open, both, or nothing of the two.
	sort string
	// tells: a print may stand there.
	tells bool
	// from is the number of the first function that may be called.
	from int
	deep int
	// returns: a return may stand there; result: it has a value.
	returns bool
	result  bool
}

func (m *maker) chance(percent int) bool { return m.Intn(100) < percent }

func (m *maker) slip() bool { return m.chance(m.slips) }

func (m *maker) program() api.Program {
	number := api.Type{Kind: api.TyInt}
	p := api.Program{
		Records: []api.Record{{Name: "r", Fields: []api.Field{{Name: "x", Type: number}}}},
		Shared:  []api.Field{{Name: "s", Type: number}, {Name: "g", Type: api.Type{Kind: api.TyRef, Name: "r"}}, {Name: "e", Type: api.Type{Kind: api.TyArray, N: 2}}},
	}
	m.funcs, m.slips = nil, m.Intn(4)*m.Intn(5)
	for i := range m.Intn(7) {
		f := made{name: "f" + strconv.Itoa(i), result: m.chance(40), sort: []string{"touch", "open", "none"}[m.Intn(3)]}
		if f.result && f.sort == "open" {
			f.sort = "none"
		}
		m.funcs = append(m.funcs, f)
	}
	for i, f := range m.funcs {
		at := place{sort: f.sort, tells: !f.result, from: i + 1, returns: true, result: f.result}
		g := api.Func{Name: f.name, Params: []api.Field{{Name: "a", Type: number}}}
		if f.result {
			g.Result = number
		}
		g.Body = m.list(at)
		p.Funcs = append(p.Funcs, g)
	}
	if m.chance(30) {
		// Calls lead to functions ahead too.
		m.Shuffle(len(p.Funcs), func(i, j int) { p.Funcs[i], p.Funcs[j] = p.Funcs[j], p.Funcs[i] })
	}
	for range m.Intn(3) {
		p.Threads = append(p.Threads, append([]api.Stmt{{Kind: api.StVar, Name: "a", Type: number}}, m.list(place{sort: "open", tells: true})...))
	}
	return p
}

func (m *maker) list(at place) (l []api.Stmt) {
	at.deep++
	for range m.Intn(4) {
		if at.deep < 5 {
			l = append(l, m.stmt(at))
		}
	}
	return l
}

func (m *maker) stmt(at place) api.Stmt {
	switch k := m.Intn(20); {
	case k < 3 && (at.tells || m.slip()):
		return api.Stmt{Kind: api.StPrint, X: m.expr(at, 1)}
	case k < 6 && (at.sort == "open" || m.slip()):
		at.sort, at.returns = "touch", false
		return api.Stmt{Kind: api.StAtomic, Body: m.list(at)}
	case k < 8 && (at.returns || m.slip()):
		s := api.Stmt{Kind: api.StReturn}
		if at.result {
			s.X = m.expr(at, 1)
		}
		return s
	case k < 10 && (at.sort == "touch" || m.slip()):
		return api.Stmt{Kind: api.StSet, X: m.target(at), Y: m.expr(at, 1)}
	case k < 11:
		m.locals++
		return api.Stmt{Kind: api.StVar, Name: "v" + strconv.Itoa(m.locals), Type: api.Type{Kind: api.TyInt}, X: m.expr(at, 1)}
	case k < 14:
		return api.Stmt{Kind: api.StIf, X: m.expr(at, 1), Body: m.list(at), Else: m.list(at)}
	case k < 15:
		return api.Stmt{Kind: api.StWhile, X: m.expr(at, 1), Body: m.list(at)}
	case k < 19:
		if f := m.called(at, false); f != "" {
			return api.Stmt{Kind: api.StCall, X: call(f, m.expr(at, 2))}
		}
	}
	return api.Stmt{Kind: api.StSet, X: named("a"), Y: m.expr(at, 1)}
}

// called is the name of a function that may be called there: empty, if none is found.
func (m *maker) called(at place, asValue bool) string {
	if len(m.funcs) == 0 {
		return ""
	}
	i := m.Intn(len(m.funcs))
	f := m.funcs[i]
	fits := i >= at.from && (f.sort == "none" || f.sort == at.sort) && (at.tells || f.result)
	if asValue && !f.result || !fits && !m.slip() {
		return ""
	}
	return f.name
}

func named(name string) api.Expr { return api.Expr{Kind: api.ExName, Name: name} }

func of(k api.ExprKind, args ...api.Expr) api.Expr { return api.Expr{Kind: k, Args: args} }

func call(name string, args ...api.Expr) api.Expr {
	return api.Expr{Kind: api.ExCall, Name: name, Args: args}
}

// target is what may be set, of what is shared.
func (m *maker) target(at place) api.Expr {
	switch m.Intn(3) {
	case 0:
		return api.Expr{Kind: api.ExField, Name: "x", Args: []api.Expr{named("g")}}
	case 1:
		return of(api.ExIndex, named("e"), m.expr(at, 2))
	}
	return named("s")
}

func (m *maker) expr(at place, deep int) api.Expr {
	if deep > 4 {
		return named("a")
	}
	switch k := m.Intn(12); {
	case k < 2 && (at.sort == "touch" || m.slip()):
		made := api.Expr{Kind: api.ExNew, Type: api.Type{Kind: api.TyRef, Name: "r"}}
		return []api.Expr{m.target(at), of(api.ExEq, named("g"), api.Expr{Kind: api.ExNil}), of(api.ExNe, made, made), {Kind: api.ExField, Name: "x", Args: []api.Expr{made}}}[m.Intn(4)]
	case k < 4:
		if f := m.called(at, true); f != "" {
			return call(f, m.expr(at, deep+1))
		}
	case k < 6:
		return of([]api.ExprKind{api.ExAdd, api.ExMod, api.ExEq, api.ExLt, api.ExAnd, api.ExOr}[m.Intn(6)], m.expr(at, deep+1), m.expr(at, deep+1))
	case k < 7:
		return of([]api.ExprKind{api.ExNeg, api.ExNot}[m.Intn(2)], m.expr(at, deep+1))
	case k < 9:
		return api.Expr{Kind: api.ExNumber, N: int64(m.Intn(3))}
	}
	return named("a")
}

// tally counts how many programs had a first fault of which row.
type tally map[string]int

// test holds what Check and Of answer of a program against the words.
func (c tally) test(t *testing.T, p api.Program) {
	t.Helper()
	w := wordsOf(p)
	wantPlace, want, row := w.check()
	c[row]++
	place, e := effect.Check(p)
	l, ofs := effect.Of(p)
	var wantList []api.Effect
	if want == api.OK {
		wantList = w.of()
	}
	if place != wantPlace || e != want || ofs != want || !slices.Equal(l, wantList) {
		s, _ := show.Program(p)
		t.Fatalf("%s\nthe error %d at %d, and %v, not %d at %d, and %v: %s", s, e, place, l, want, wantPlace, wantList, row)
	}
}

// wants holds that each row was there.
func (c tally) wants(t *testing.T, least int) {
	t.Helper()
	for _, row := range []string{"right", "ring", "result", "return in a thread", "return in a block", "touches in a thread", "opens in a block", "opens in what touches"} {
		if c[row] < least {
			t.Errorf("%s: %d programs", row, c[row])
		}
	}
}

func TestByChance(t *testing.T) {
	m := &maker{Rand: rand.New(rand.NewSource(6))}
	c := tally{}
	for range 20000 {
		c.test(t, m.program())
	}
	c.wants(t, 50)
	if c["refused"] > 0 {
		t.Errorf("types refuses %d programs", c["refused"])
	}
}
