package lower_test

import (
	"math"
	"math/rand"
	"reflect"
	"slices"
	"strconv"
	"strings"
	"testing"

	"turnstile/api"
	"turnstile/effect"
	"turnstile/lower"
	"turnstile/parse"
	"turnstile/show"
	"turnstile/types"
)

// maker makes right programs by chance.
type maker struct {
	*rand.Rand
	funcs []api.Func
	sorts []string
}

// place is where a part is made.
type place struct {
	// what may be done there: touch, open, or nothing of the two.
	sort string
	// tells: a print may stand there.
	tells bool
	// from is the number of the first function that may be called.
	from   int
	deep   int
	locals []api.Field
	// returns: a return may stand there, with a value of this type or none.
	returns bool
	result  api.Type
}

var (
	intType  = api.Type{Kind: api.TyInt}
	refType  = api.Type{Kind: api.TyRef, Name: "r"}
	intArray = api.Type{Kind: api.TyArray, N: 3}
	refArray = api.Type{Kind: api.TyArray, Name: "r", N: 2}
)

const ahead = `record r { x int; n r; a [3]int; l [2]r; } shared s int; shared u int; shared g r; shared h r; shared e [3]int; shared l [2]r;
	func begin() { if g == nil { g = new r; h = new r; g.n = h; h.n = g; g.a = new [3]int; h.a = g.a; g.l = new [2]r; h.l = new [2]r; h.l[0] = g; h.l[1] = h; g.l[0] = h; g.l[1] = h; } if e == nil { e = new [3]int; } if l == nil { l = new [2]r; l[0] = g; l[1] = h; } }`

func (m *maker) chance(percent int) bool { return m.Intn(100) < percent }

func (m *maker) someType() api.Type {
	return []api.Type{intType, intType, intType, refType, refType, intArray, refArray}[m.Intn(7)]
}

func (m *maker) program() api.Program {
	p, _, _, _ := parse.Program(ahead)
	m.funcs, m.sorts = p.Funcs, []string{"touch"}
	for i := range 1 + m.Intn(5) {
		f := api.Func{Name: "f" + strconv.Itoa(i)}
		for j := range m.Intn(3) {
			f.Params = append(f.Params, api.Field{Name: "v" + strconv.Itoa(2*j), Type: m.someType()})
		}
		sort := []string{"touch", "touch", "open", "none", "none"}[m.Intn(5)]
		if sort != "open" && m.chance(60) {
			f.Result = m.someType()
		}
		m.funcs, m.sorts = append(m.funcs, f), append(m.sorts, sort)
	}
	for i := range m.funcs {
		f := &m.funcs[i]
		if i > 0 {
			f.Body = m.list(place{sort: m.sorts[i], tells: f.Result == api.Type{}, from: i + 1, locals: f.Params, returns: true, result: f.Result})
		}
	}
	p.Funcs = m.funcs
	for range 1 + m.Intn(3) {
		var l []api.Stmt
		if m.chance(70) {
			l = append(l, api.Stmt{Kind: api.StAtomic, Body: []api.Stmt{{Kind: api.StCall, X: api.Expr{Kind: api.ExCall, Name: "begin"}}}})
		}
		p.Threads = append(p.Threads, append(l, m.listOf(place{sort: "open", tells: true, from: 1}, 2+m.Intn(8))...))
	}
	return p
}

func (m *maker) list(at place) []api.Stmt { return m.listOf(at, 1+m.Intn(4)) }

func (m *maker) listOf(at place, many int) (l []api.Stmt) {
	at.deep++
	at.locals = slices.Clone(at.locals)
	for range many {
		if at.deep > 4 {
			break
		}
		s := m.stmt(at)
		if s.Kind == api.StVar {
			at.locals = append(at.locals, api.Field{Name: s.Name, Type: s.Type})
		}
		l = append(l, s)
		if s.Kind == api.StVar && s.Type == intType && m.chance(40) {
			l = append(l, m.loop(at, s.Name))
		}
	}
	return l
}

// loop counts a local up to some number, if nothing within comes in between.
func (m *maker) loop(at place, name string) api.Stmt {
	i := api.Expr{Kind: api.ExName, Name: name}
	body := m.list(at)
	up := api.Stmt{Kind: api.StSet, X: i, Y: of(api.ExAdd, i, numeral(1))}
	if m.chance(50) {
		body = append(body, up)
	} else {
		body = append([]api.Stmt{up}, body...)
	}
	return api.Stmt{Kind: api.StWhile, X: of(api.ExLt, i, numeral(int64(m.Intn(4)))), Body: body}
}

func (m *maker) stmt(at place) api.Stmt {
	switch k := m.Intn(24); {
	case k < 4 && at.tells:
		return api.Stmt{Kind: api.StPrint, X: m.expr(at, intType, 1)}
	case k < 9 && at.sort == "open":
		at.sort, at.returns = "touch", false
		return api.Stmt{Kind: api.StAtomic, Body: m.list(at)}
	case k < 10 && at.returns:
		s := api.Stmt{Kind: api.StReturn}
		if at.result != (api.Type{}) {
			s.X = m.expr(at, at.result, 1)
		}
		return s
	case k < 14:
		return m.set(at)
	case k < 17:
		t := m.someType()
		s := api.Stmt{Kind: api.StVar, Name: m.newName(at), Type: t}
		if m.chance(70) {
			s.X = m.expr(at, t, 1)
		}
		return s
	case k < 20:
		s := api.Stmt{Kind: api.StIf, X: m.expr(at, intType, 1), Body: m.list(at)}
		if m.chance(50) {
			s.Else = m.list(at)
		}
		return s
	case k < 23:
		if x, ok := m.call(at, api.Type{}, 0); ok {
			return api.Stmt{Kind: api.StCall, X: x}
		}
	}
	if m.chance(10) {
		return api.Stmt{Kind: api.StWhile, X: m.expr(at, intType, 1), Body: m.list(at)}
	}
	return m.set(at)
}

// newName is one that no local has there: names come again in other lists and other functions, and with other types; fields, functions and records have some of them, too.
func (m *maker) newName(at place) string {
	some := []string{"x", "n", "a", "f1", "f2", "r", "begin"}
	m.Shuffle(len(some), func(i, j int) { some[i], some[j] = some[j], some[i] })
	for i := range 100 {
		name := "v" + strconv.Itoa(i)
		if len(some) > 0 && m.chance(30) {
			name, some = some[0], some[1:]
		}
		if !slices.ContainsFunc(at.locals, func(f api.Field) bool { return f.Name == name }) {
			return name
		}
	}
	return ""
}

func (m *maker) set(at place) api.Stmt {
	t := m.someType()
	x, ok := m.target(at, t)
	for !ok {
		if len(at.locals) == 0 && at.sort != "touch" {
			return api.Stmt{Kind: api.StIf, X: m.expr(at, intType, 2)}
		}
		t = m.someType()
		x, ok = m.target(at, t)
	}
	return api.Stmt{Kind: api.StSet, X: x, Y: m.expr(at, t, 1)}
}

// target is something of a type that may be set, if one is found.
func (m *maker) target(at place, t api.Type) (api.Expr, bool) {
	if at.sort == "touch" && m.chance(75) {
		return m.touched(at, t, 2), true
	}
	return m.local(at, t)
}

func (m *maker) local(at place, t api.Type) (api.Expr, bool) {
	var l []string
	for _, f := range at.locals {
		if f.Type == t {
			l = append(l, f.Name)
		}
	}
	if len(l) == 0 {
		return api.Expr{}, false
	}
	return api.Expr{Kind: api.ExName, Name: l[m.Intn(len(l))]}, true
}

// touched is a shared variable, a field, an element of a type.
func (m *maker) touched(at place, t api.Type, deep int) api.Expr {
	name := map[api.Type][]string{intType: {"s", "u"}, refType: {"g", "h"}, intArray: {"e", "e"}, refArray: {"l", "l"}}[t][m.Intn(2)]
	if deep > 4 || m.chance(40) {
		return api.Expr{Kind: api.ExName, Name: name}
	}
	if m.chance(50) && t == intType {
		return of(api.ExIndex, m.thing(at, intArray, deep+1), m.index(at, deep+1))
	}
	if m.chance(40) && t == refType {
		return of(api.ExIndex, m.thing(at, refArray, deep+1), m.index(at, deep+1))
	}
	field := map[api.Type]string{intType: "x", refType: "n", intArray: "a", refArray: "l"}[t]
	return api.Expr{Kind: api.ExField, Name: field, Args: []api.Expr{m.thing(at, refType, deep+1)}}
}

// thing is a reference that may stand ahead of a field or an index, as no nil may.
func (m *maker) thing(at place, t api.Type, deep int) api.Expr {
	if x := m.expr(at, t, deep); x.Kind != api.ExNil {
		return x
	}
	return api.Expr{Kind: api.ExNew, Type: t}
}

func (m *maker) index(at place, deep int) api.Expr {
	if m.chance(75) {
		return numeral(int64(m.Intn(2)))
	}
	if m.chance(50) {
		return numeral(int64(m.Intn(6) - 2))
	}
	return m.expr(at, intType, deep)
}

// call is a call of a function that may be called there, and has a result of that type; any, if it is none.
func (m *maker) call(at place, t api.Type, deep int) (api.Expr, bool) {
	for range 5 {
		i := m.Intn(len(m.funcs))
		f, sort := m.funcs[i], m.sorts[i]
		if i < at.from || sort != "none" && sort != at.sort || !at.tells && f.Result == (api.Type{}) || t != (api.Type{}) && f.Result != t {
			continue
		}
		x := api.Expr{Kind: api.ExCall, Name: f.Name}
		for _, p := range f.Params {
			x.Args = append(x.Args, m.expr(at, p.Type, deep+1))
		}
		return x, true
	}
	return api.Expr{}, false
}

func (m *maker) expr(at place, t api.Type, deep int) api.Expr {
	if deep < 4 && m.chance(15) {
		if x, ok := m.call(at, t, deep); ok {
			return x
		}
	}
	if m.chance(45) {
		if x, ok := m.local(at, t); ok {
			return x
		}
	}
	if at.sort == "touch" && m.chance(60) {
		return m.touched(at, t, deep)
	}
	if t == intType {
		return m.number(at, deep)
	}
	if at.sort == "touch" && m.chance(85) {
		return api.Expr{Kind: api.ExNew, Type: t}
	}
	return api.Expr{Kind: api.ExNil}
}

func (m *maker) number(at place, deep int) api.Expr {
	switch {
	case m.chance(2):
		return numeral([]int64{math.MaxInt64, math.MinInt64, 1 << 62, -1 << 32}[m.Intn(4)])
	case deep > 4 || m.chance(30):
		return numeral(int64(m.Intn(7) - 2))
	}
	switch k := api.ExprKind(int(api.ExNeg) + m.Intn(int(api.ExOr-api.ExNeg)+1)); k {
	case api.ExNeg, api.ExNot:
		return of(k, m.expr(at, intType, deep+1))
	case api.ExDiv, api.ExMod:
		if m.chance(70) {
			return of(k, m.expr(at, intType, deep+1), numeral(int64(1+m.Intn(4))))
		}
		return of(k, m.expr(at, intType, deep+1), m.expr(at, intType, deep+1))
	case api.ExEq, api.ExNe:
		t := m.someType()
		x, y := m.expr(at, t, deep+1), m.expr(at, t, deep+1)
		return of(k, x, y)
	default:
		return of(k, m.expr(at, intType, deep+1), m.expr(at, intType, deep+1))
	}
}

func (m *maker) picks(threads int) (l []int) {
	for range m.Intn(40) {
		i := m.Intn(threads)
		if m.chance(5) {
			i = m.Intn(9) - 4
		}
		l = append(l, slices.Repeat([]int{i}, 1+m.Intn(3))...)
	}
	return l
}

// each hands on so many right programs, always the same ones.
func each(t *testing.T, seed int64, many int, test func(m *maker, text string, p api.Program)) {
	t.Helper()
	m := &maker{Rand: rand.New(rand.NewSource(seed))}
	tooGreat := 0
	for range many {
		p := m.program()
		if show.Items(p) > api.MaxItems {
			tooGreat++
			continue
		}
		s, _ := show.Program(p)
		if place, e := effect.Check(p); e != api.OK {
			t.Fatalf("%s: effect finds the error %d at %d", s, e, place)
		}
		test(m, s, p)
	}
	if tooGreat > many/4 {
		t.Errorf("%d of %d programs are too great", tooGreat, many)
	}
}

// plenty is more fuel than any run by chance needs that comes to an end.
const plenty = 4000

// notShort is as many of the picks as the language has fuel for.
func notShort(t *testing.T, p api.Program, picks []int, fuel int) []int {
	for len(picks) > 0 && strings.HasSuffix(said(t, p, picks, fuel), "short") {
		picks = picks[:len(picks)-1-len(picks)/8]
	}
	return picks
}

// tally counts what was met.
type tally map[string]int

func (c tally) wants(t *testing.T, least int, kinds ...string) {
	t.Helper()
	for _, k := range kinds {
		if c[k] < least {
			t.Errorf("%s: %d times", k, c[k])
		}
	}
}

// TestByChance holds all three promises for programs by chance, with picks by chance. (P11.1, P11.2, P11.3)
func TestByChance(t *testing.T) {
	c := tally{}
	each(t, 11, 3000, func(m *maker, text string, p api.Program) {
		code, e := lower.Lower(p)
		if e != api.OK {
			if e != api.ErrLimit || longest(p) <= surely || !reflect.DeepEqual(code, api.Code{}) {
				t.Fatalf("%s: the error %d, the length %d", text, e, longest(p))
			}
			c["too great"]++
			return
		}
		if longest(p) > surely {
			c["long"]++
		}
		testMayBe(t, text, p, code)
		for range 4 {
			picks := notShort(t, p, m.picks(len(p.Threads)), plenty)
			got := testSame(t, text, p, code, picks)
			for _, word := range strings.Fields(got) {
				c[word]++
			}
			if strings.Count(got, " ") > 4*len(p.Threads) {
				c["much"]++
			}
		}
	})
	c.wants(t, 200, "..", "done", "zero", "nil", "index", "much", "long")
}

// TestJustSurelyByChance holds that programs by chance of which each thread's list has the length 128, exactly, are not too great. (P11.1)
func TestJustSurelyByChance(t *testing.T) {
	long := 0
	each(t, 128, 1500, func(m *maker, text string, p api.Program) {
		for i := range p.Threads {
			l := slices.Clone(p.Threads[i])
			length := func() int { return longest(api.Program{Funcs: p.Funcs, Threads: [][]api.Stmt{l}}) }
			for length() > surely {
				l = l[:len(l)-1]
				long++
			}
			p.Threads[i] = append(l, slices.Repeat([]api.Stmt{{Kind: api.StAtomic}}, surely-length())...)
		}
		if show.Items(p) > api.MaxItems {
			return
		}
		s, _ := show.Program(p)
		testSame(t, s, p, lowered(t, s, p), notShort(t, p, m.picks(len(p.Threads)), plenty))
	})
	if long < 150 {
		t.Errorf("%d statements were too many", long)
	}
}

// edited is a program with one thing in it made another one, by chance.
func (m *maker) edited(p api.Program) api.Program {
	p = remadeProgram(p, func(l reflect.Value) reflect.Value { return l })
	var exprs []*api.Expr
	var stmts []*[]api.Stmt
	findParts(reflect.ValueOf(&p).Elem(), &exprs, &stmts)
	if m.chance(50) && len(exprs) > 0 {
		*exprs[m.Intn(len(exprs))] = *exprs[m.Intn(len(exprs))]
		return p
	}
	from := stmts[m.Intn(len(stmts))]
	for len(*from) == 0 {
		from = stmts[m.Intn(len(stmts))]
	}
	to := from
	if m.chance(70) {
		to = stmts[m.Intn(len(stmts))]
	}
	*to = append(slices.Clone(*to), (*from)[m.Intn(len(*from))])
	return p
}

// findParts finds all expressions and lists of statements.
func findParts(v reflect.Value, exprs *[]*api.Expr, stmts *[]*[]api.Stmt) {
	switch one := v.Addr().Interface().(type) {
	case *api.Expr:
		if one.Kind != api.ExNone {
			*exprs = append(*exprs, one)
		}
	case *[]api.Stmt:
		*stmts = append(*stmts, one)
	}
	switch v.Kind() {
	case reflect.Struct:
		for i := range v.NumField() {
			findParts(v.Field(i), exprs, stmts)
		}
	case reflect.Slice:
		for i := range v.Len() {
			findParts(v.Index(i), exprs, stmts)
		}
	}
}

// fault is what the chapters ahead find wrong with a program.
func fault(p api.Program) api.Errno {
	if e := show.Check(p); e != api.OK {
		return e
	}
	if _, e := types.Check(p); e != api.OK {
		return e
	}
	_, e := effect.Check(p)
	return e
}

// TestEditsByChance holds that a program in which something was made something else is ErrArg just if it is not right, and that else its graphs do the same. (P11.1, P11.3)
func TestEditsByChance(t *testing.T) {
	c := tally{}
	each(t, 111, 800, func(m *maker, text string, p api.Program) {
		for range 4 {
			p := m.edited(p)
			s, _ := show.Program(p)
			if e := fault(p); e != api.OK {
				c["error "+strconv.Itoa(int(e))]++
				testRefused(t, s, p, api.ErrArg)
				continue
			}
			code, e := lower.Lower(p)
			if e != api.OK {
				if e != api.ErrLimit || longest(p) <= surely {
					t.Fatalf("%s: the error %d, the length %d", s, e, longest(p))
				}
				continue
			}
			c["right"]++
			testMayBe(t, s, p, code)
			testSame(t, s, p, code, notShort(t, p, m.picks(len(p.Threads)), plenty))
		}
	})
	c.wants(t, 4, "right", "error 1", "error 8", "error 9", "error 10", "error 11", "error 12")
}

// guarded says whether right ahead of each load and store it is asked whether the reference is nil, and behind that whether the index, if there is one, is one: chapter 15's word.
func guarded(g api.Graph) bool {
	for _, b := range g.Blocks {
		for n, i := range b.Ins {
			if i.Kind != api.InLoad && i.Kind != api.InStore {
				continue
			}
			if i.C >= 0 {
				if n--; n < 0 || b.Ins[n].Kind != api.InIndex || b.Ins[n].B != i.C {
					return false
				}
			}
			if n--; n < 0 || b.Ins[n] != (api.Ins{Kind: api.InNil, B: i.B}) {
				return false
			}
		}
	}
	return true
}

// TestGuarded holds that the graphs are guarded, as layers behind this one may wish them.
func TestGuarded(t *testing.T) {
	each(t, 116, 300, func(_ *maker, text string, p api.Program) {
		c, _ := lower.Lower(p)
		for i, g := range c.Threads {
			if !guarded(g) {
				t.Errorf("%s: the thread %d is not guarded", text, i)
			}
		}
	})
}
