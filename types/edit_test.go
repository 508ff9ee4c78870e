package types_test

import (
	"math/rand"
	"reflect"
	"slices"
	"testing"

	"turnstile/api"
	"turnstile/show"
	"turnstile/types"
)

// parts are all the parts of a tree that can be made another: pointers into it.
type parts struct {
	exprs []*api.Expr
	types []*api.Type
	names []*string
	// lists are of things, of statements, of fields and of Args.
	lists []reflect.Value
}

func partsOf(p *api.Program) *parts {
	l := &parts{}
	l.add(reflect.ValueOf(p).Elem())
	return l
}

func (l *parts) add(v reflect.Value) {
	switch one := v.Addr().Interface().(type) {
	case *api.Expr:
		l.exprs = append(l.exprs, one)
	case *api.Type:
		l.types = append(l.types, one)
		return
	case *string:
		l.names = append(l.names, one)
	}
	switch v.Kind() {
	case reflect.Struct:
		for i := range v.NumField() {
			l.add(v.Field(i))
		}
	case reflect.Slice:
		l.lists = append(l.lists, v)
		for i := range v.Len() {
			l.add(v.Index(i))
		}
	}
}

// edit makes a part another one, and answers what makes it again as it was.
type edit func() (back func())

func become[T any](part *T, next func(T) T) edit {
	return func() func() {
		old := *part
		*part = next(old)
		return func() { *part = old }
	}
}

func replaced[T any](part *T, next T) edit { return become(part, func(T) T { return next }) }

func name(s string) api.Expr { return api.Expr{Kind: api.ExName, Name: s} }

func of(k api.ExprKind, args ...api.Expr) api.Expr { return api.Expr{Kind: k, Args: args} }

func call(s string, args ...api.Expr) api.Expr {
	return api.Expr{Kind: api.ExCall, Name: s, Args: args}
}

func dot(x api.Expr, s string) api.Expr {
	return api.Expr{Kind: api.ExField, Name: s, Args: []api.Expr{x}}
}

func someTypes() []api.Type {
	return []api.Type{
		{}, {Kind: api.TyInt}, {Kind: api.TyRef, Name: "r"}, {Kind: api.TyRef, Name: "q"}, {Kind: api.TyRef, Name: "w"}, {Kind: api.TyRef, Name: "one"}, {Kind: api.TyRef, Name: "i"},
		{Kind: api.TyArray, N: 2}, {Kind: api.TyArray, N: 3}, {Kind: api.TyArray, N: 2, Name: "r"}, {Kind: api.TyArray, N: 3, Name: "r"}, {Kind: api.TyArray, N: 3, Name: "q"}, {Kind: api.TyArray, N: 3, Name: "w"}, {Kind: api.TyArray, N: 65},
	}
}

func someNames() []string {
	return []string{"r", "q", "w", "i", "p", "o", "e", "l", "k", "x", "y", "s", "t", "a", "b", "n", "none", "one", "ref", "list", "late", "last", "int", ""}
}

func someExprs() []api.Expr {
	null, number := api.Expr{Kind: api.ExNil}, api.Expr{Kind: api.ExNumber, N: 1}
	l := []api.Expr{
		{}, null, number, call("none"), call("one"), call("one", number), call("one", null), call("ref", null, null), call("last", name("p"), number), call("list", null, number), call("w", number),
		call("none", number), call("one", call("none")), of(api.ExAdd, name("w"), null), of(api.ExAdd, null, name("w")), of(api.ExEq, call("none"), call("none")), of(api.ExNot, null),
		dot(name("p"), "x"), dot(name("p"), "y"), dot(name("o"), "y"), dot(null, "x"), dot(name("e"), "x"), of(api.ExIndex, name("e"), number), of(api.ExIndex, name("l"), number), of(api.ExIndex, name("p"), number), of(api.ExIndex, name("k"), null),
	}
	for _, s := range someNames() {
		l = append(l, name(s))
	}
	for _, t := range someTypes() {
		l = append(l, api.Expr{Kind: api.ExNew, Type: t})
	}
	return l
}

func someStmts() []api.Stmt {
	return []api.Stmt{
		{Kind: api.StReturn}, {Kind: api.StReturn, X: api.Expr{Kind: api.ExNil}}, {Kind: api.StVar, Name: "x", Type: api.Type{Kind: api.TyInt}}, {Kind: api.StVar, Name: "new_one", Type: api.Type{Kind: api.TyInt}, X: name("new_one")},
		{Kind: api.StCall, X: call("none")}, {Kind: api.StPrint, X: name("x")}, {Kind: api.StPrint, X: call("none")}, {Kind: api.StAtomic}, {Kind: api.StNone}, {Kind: api.StSet, X: name("x"), Y: name("p")}, {Kind: api.StWhile, X: name("a")},
	}
}

// editsOf are all edits of single parts.
func editsOf(l *parts) (edits []edit) {
	for _, x := range l.exprs {
		for _, next := range someExprs() {
			edits = append(edits, replaced(x, next))
		}
		for _, around := range []func(api.Expr) api.Expr{
			func(x api.Expr) api.Expr { return of(api.ExNeg, x) },
			func(x api.Expr) api.Expr { return of(api.ExEq, x, api.Expr{Kind: api.ExNil}) },
			func(x api.Expr) api.Expr { return of(api.ExAnd, name("i"), x) },
			func(x api.Expr) api.Expr { return of(api.ExIndex, x, name("i")) },
			func(x api.Expr) api.Expr { return of(api.ExIndex, name("e"), x) },
			func(x api.Expr) api.Expr { return dot(x, "x") },
			func(x api.Expr) api.Expr { return call("one", x) },
			func(x api.Expr) api.Expr { return call("ref", x, x) },
		} {
			edits = append(edits, become(x, around))
		}
		for _, kind := range []api.ExprKind{api.ExNot, api.ExAdd, api.ExMod, api.ExLe, api.ExOr, api.ExEq, api.ExNe, api.ExIndex, api.ExCall} {
			edits = append(edits, become(x, func(x api.Expr) api.Expr { x.Kind = kind; return x }))
		}
	}
	for _, t := range l.types {
		for _, next := range someTypes() {
			edits = append(edits, replaced(t, next))
		}
	}
	for _, s := range l.names {
		for _, next := range someNames() {
			edits = append(edits, replaced(s, next))
		}
	}
	for _, v := range l.lists {
		edits = append(edits, editsOfList(v)...)
	}
	return edits
}

// editsOfList leave out each of a list, have each twice, and put two in each other's place; of statements, also put another one there.
func editsOfList(v reflect.Value) (edits []edit) {
	with := func(next func() reflect.Value) {
		edits = append(edits, func() func() {
			// A copy: what v is changes with the list.
			old := reflect.ValueOf(v.Interface())
			v.Set(next())
			return func() { v.Set(old) }
		})
	}
	n := v.Len()
	joined := func(l ...reflect.Value) reflect.Value {
		all := reflect.MakeSlice(v.Type(), 0, n+1)
		for _, one := range l {
			all = reflect.AppendSlice(all, one)
		}
		return all
	}
	for i := range n {
		with(func() reflect.Value { return joined(v.Slice(0, min(i, v.Len())), v.Slice(min(i+1, v.Len()), v.Len())) })
		with(func() reflect.Value { return joined(v.Slice(0, min(i+1, v.Len())), v.Slice(min(i, v.Len()), v.Len())) })
		with(func() reflect.Value { return joined(v.Slice(min(i, v.Len()), v.Len()), v.Slice(0, min(i, v.Len()))) })
	}
	if _, ok := v.Interface().([]api.Stmt); ok {
		for _, s := range someStmts() {
			for i := range n + 1 {
				one := reflect.ValueOf([]api.Stmt{s})
				with(func() reflect.Value {
					return joined(v.Slice(0, min(i, v.Len())), one, v.Slice(min(i, v.Len()), v.Len()))
				})
			}
		}
	}
	return edits
}

// tally counts how many trees had which fault at which kind of place.
type tally map[spotFault]int

type spotFault struct {
	kind string
	e    api.Errno
}

// test holds what Check finds in a tree against the tables.
func (c tally) test(t *testing.T, p api.Program) {
	t.Helper()
	wantPlace, want, kind := tables{p}.check()
	c[spotFault{kind, want}]++
	if place, e := types.Check(p); place != wantPlace || e != want {
		s, _ := show.Program(p)
		t.Fatalf("%s\nthe error %d at %d, not %d at %d", s, e, place, want, wantPlace)
	}
	if n := types.Places(p); want != api.ErrArg && n != len(tables{p}.spots()) {
		s, _ := show.Program(p)
		t.Fatalf("%s\n%d places", s, n)
	}
}

// wants holds that all faults were there, of each kind of place.
func (c tally) wants(t *testing.T, least int) {
	t.Helper()
	faults := map[string][]api.Errno{
		"record": {api.ErrTwice, api.ErrGone}, "shared": {api.ErrTwice, api.ErrGone}, "func": {api.ErrTwice, api.ErrGone}, "var": {api.ErrTwice, api.ErrGone, api.ErrType},
		"set": {api.ErrGone, api.ErrType}, "if": {api.ErrGone, api.ErrType}, "while": {api.ErrGone, api.ErrType}, "print": {api.ErrGone, api.ErrType}, "return": {api.ErrGone, api.ErrType}, "call": {api.ErrGone, api.ErrType},
		"right": {api.OK}, "refused": {api.ErrArg},
	}
	kinds := 0
	for kind, l := range faults {
		for _, e := range l {
			kinds++
			if c[spotFault{kind, e}] < least {
				t.Errorf("%s: the error %d in %d trees", kind, e, c[spotFault{kind, e}])
			}
		}
	}
	if len(c) != kinds {
		t.Errorf("%v", c)
	}
}

// TestEachEdit holds the tables for a program in which all fits with each part made another one.
func TestEachEdit(t *testing.T) {
	p := whole(t)
	c := tally{}
	c.test(t, p)
	edits := editsOf(partsOf(&p))
	for _, e := range edits {
		back := e()
		c.test(t, p)
		back()
	}
	c.wants(t, 10)
	if q := whole(t); !reflect.DeepEqual(p, q) {
		t.Error("the edits are not taken back")
	}
}

// TestEditsByChance holds the tables for programs with several parts made others.
func TestEditsByChance(t *testing.T) {
	chance := rand.New(rand.NewSource(5))
	p := whole(t)
	var edits []edit
	for _, e := range editsOf(partsOf(&p)) {
		back := e()
		// Of trees that may be more is held than of those that are refused.
		if show.Check(p) == api.OK {
			edits = append(edits, e)
		}
		back()
	}
	c := tally{}
	for range 20000 {
		var back []func()
		for range 2 + chance.Intn(4) {
			back = append(back, edits[chance.Intn(len(edits))]())
		}
		c.test(t, p)
		for _, b := range slices.Backward(back) {
			b()
		}
	}
	c.wants(t, 10)
}
