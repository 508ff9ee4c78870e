package source_test

import (
	"iter"
	"maps"
	"slices"

	"turnstile/api"
)

// meaning is the chapter's words, written out once more for one run of a right program: told apart from the program's own ways. A thread is a row of what may be seen of it, gone through as it is asked for; an atomic block begins by keeping all that there is.
type meaning struct {
	api.Program
	shared  map[string]any
	objects []*object
	threads []*actor
	// steps are those of the leaps that were made; left is the fuel that the leap which is being made still has.
	steps, left int
}

// object is what was made: a record by its fields' names, an array by its elements' numbers. A value is an int64 or an *object.
type object struct{ parts map[any]any }

var noObject *object

type sight struct {
	kind   string
	number int64
	prints []int64
	end    api.EndKind
}

type actor struct {
	next func() (sight, bool)
	stop func()
	wait []int64
	seen api.Seen
}

type wrong struct{ end api.EndKind }

type empty struct{}

type stopped struct{}

func meaningOf(p api.Program) *meaning {
	m := &meaning{Program: p, shared: map[string]any{}}
	for _, v := range p.Shared {
		m.shared[v.Name] = zero(v.Type)
	}
	for _, l := range p.Threads {
		a := &actor{}
		a.next, a.stop = iter.Pull(m.thread(l))
		m.threads = append(m.threads, a)
	}
	return m
}

func (m *meaning) close() {
	for _, a := range m.threads {
		a.stop()
	}
}

func zero(t api.Type) any {
	if t.Kind == api.TyInt {
		return int64(0)
	}
	return noObject
}

// leap answers what was seen; short, if the fuel does not do: nothing more may be asked then.
func (m *meaning) leap(i, fuel int) string {
	if i < 0 || i >= len(m.threads) || m.threads[i].seen.End != api.EndNone {
		return "nothing"
	}
	a := m.threads[i]
	if len(a.wait) > 0 {
		a.seen.Out = append(a.seen.Out, a.wait[0])
		a.wait = a.wait[1:]
		return "waited"
	}
	m.left = fuel - m.steps
	s, _ := a.next()
	switch s.kind {
	case "short":
		return s.kind
	case "print":
		a.seen.Out = append(a.seen.Out, s.number)
	case "block":
		a.wait = s.prints
	case "end", "failed block":
		a.seen.End = s.end
	}
	m.steps = fuel - m.left
	return s.kind
}

// run is what Run answers.
func (m *meaning) run(picks []int, fuel int) (a answer) {
	for _, i := range picks {
		if m.leap(i, fuel) == "short" {
			a.short = true
			break
		}
	}
	for _, t := range m.threads {
		a.seen = append(a.seen, t.seen)
	}
	return a
}

// doer does the statements of a thread: those of a block, where prints is not nil.
type doer struct {
	*meaning
	show   func(sight)
	prints *[]int64
}

func (m *meaning) thread(l []api.Stmt) iter.Seq[sight] {
	return func(yield func(sight) bool) {
		defer func() {
			switch r := recover().(type) {
			case nil, stopped:
			case empty:
				yield(sight{kind: "short"})
			case wrong:
				yield(sight{kind: "end", end: r.end})
			default:
				panic(r)
			}
		}()
		d := doer{meaning: m, show: func(s sight) {
			if !yield(s) {
				panic(stopped{})
			}
		}}
		d.list(l, nil)
		yield(sight{kind: "end", end: api.EndDone})
	}
}

// scope is a local that may be used, and those ahead of it.
type scope struct {
	name  string
	v     any
	ahead *scope
}

func (s *scope) find(name string) *scope {
	for s != nil && s.name != name {
		s = s.ahead
	}
	return s
}

func (d doer) step() {
	if d.left == 0 {
		panic(empty{})
	}
	d.left--
}

// list does a list of statements; the answer is that of the return in it, if it has come to one.
func (d doer) list(l []api.Stmt, s *scope) (v any, returned bool) {
	for _, one := range l {
		if one.Kind == api.StVar {
			d.step()
			v := zero(one.Type)
			if one.X.Kind != api.ExNone {
				v = d.expr(one.X, s)
			}
			s = &scope{one.Name, v, s}
		} else if v, returned := d.stmt(one, s); returned {
			return v, true
		}
	}
	return nil, false
}

func (d doer) stmt(one api.Stmt, s *scope) (v any, returned bool) {
	if one.Kind == api.StWhile {
		for {
			d.step()
			if d.expr(one.X, s) == int64(0) {
				return nil, false
			}
			if v, returned := d.list(one.Body, s); returned {
				return v, true
			}
		}
	}
	d.step()
	switch one.Kind {
	case api.StSet:
		d.set(one, s)
	case api.StIf:
		if d.expr(one.X, s) != int64(0) {
			return d.list(one.Body, s)
		}
		return d.list(one.Else, s)
	case api.StAtomic:
		d.block(one.Body, s)
	case api.StPrint:
		n := d.expr(one.X, s).(int64)
		if d.prints != nil {
			*d.prints = append(*d.prints, n)
		} else {
			d.show(sight{kind: "print", number: n})
		}
	case api.StReturn:
		if one.X.Kind == api.ExNone {
			return nil, true
		}
		return d.expr(one.X, s), true
	case api.StCall:
		d.call(one.X, s)
	}
	return nil, false
}

// block lays back all that there was, if an error ends it.
func (d doer) block(l []api.Stmt, s *scope) {
	shared := maps.Clone(d.shared)
	objects := slices.Clone(d.objects)
	var parts []map[any]any
	for _, o := range objects {
		parts = append(parts, maps.Clone(o.parts))
	}
	failed := func() (w *wrong) {
		defer func() {
			if r := recover(); r != nil {
				one, ok := r.(wrong)
				if !ok {
					panic(r)
				}
				w = &one
			}
		}()
		d.prints = &[]int64{}
		d.list(l, s)
		return nil
	}()
	if failed == nil {
		d.show(sight{kind: "block", prints: *d.prints})
		return
	}
	d.meaning.shared, d.meaning.objects = shared, objects
	for i, o := range objects {
		o.parts = parts[i]
	}
	d.show(sight{kind: "failed block", end: failed.end})
	panic(stopped{})
}

func (d doer) call(x api.Expr, s *scope) any {
	var args []any
	for _, a := range x.Args {
		args = append(args, d.expr(a, s))
	}
	f := d.Funcs[slices.IndexFunc(d.Funcs, func(f api.Func) bool { return f.Name == x.Name })]
	var params *scope
	for i, v := range args {
		params = &scope{f.Params[i].Name, v, params}
	}
	if v, returned := d.list(f.Body, params); returned {
		return v
	}
	return zero(f.Result)
}

// part answers the parts of a thing among which one is asked for, or how the thread ends.
func part(x api.Expr, of, at any) (map[any]any, any) {
	o := of.(*object)
	if o == nil {
		panic(wrong{api.EndNil})
	}
	if x.Kind == api.ExField {
		return o.parts, x.Name
	}
	if _, ok := o.parts[at]; !ok {
		panic(wrong{api.EndIndex})
	}
	return o.parts, at
}

func (d doer) set(one api.Stmt, s *scope) {
	x := one.X
	var of, at any
	if x.Kind != api.ExName {
		of = d.expr(x.Args[0], s)
	}
	if x.Kind == api.ExIndex {
		at = d.expr(x.Args[1], s)
	}
	y := d.expr(one.Y, s)
	if x.Kind != api.ExName {
		parts, key := part(x, of, at)
		parts[key] = y
	} else if l := s.find(x.Name); l != nil {
		l.v = y
	} else {
		d.shared[x.Name] = y
	}
}

func (d doer) expr(x api.Expr, s *scope) any {
	d.step()
	switch x.Kind {
	case api.ExNumber:
		return x.N
	case api.ExNil:
		return noObject
	case api.ExName:
		if l := s.find(x.Name); l != nil {
			return l.v
		}
		return d.shared[x.Name]
	case api.ExField:
		parts, key := part(x, d.expr(x.Args[0], s), nil)
		return parts[key]
	case api.ExIndex:
		of := d.expr(x.Args[0], s)
		parts, key := part(x, of, d.expr(x.Args[1], s))
		return parts[key]
	case api.ExNew:
		return d.made(x.Type)
	case api.ExCall:
		return d.call(x, s)
	case api.ExNeg:
		return -d.expr(x.Args[0], s).(int64)
	case api.ExNot:
		return truth(d.expr(x.Args[0], s) == int64(0))
	case api.ExAnd:
		return truth(d.expr(x.Args[0], s) != int64(0) && d.expr(x.Args[1], s) != int64(0))
	case api.ExOr:
		return truth(d.expr(x.Args[0], s) != int64(0) || d.expr(x.Args[1], s) != int64(0))
	}
	return two(x.Kind, d.expr(x.Args[0], s), d.expr(x.Args[1], s))
}

func two(k api.ExprKind, a, b any) any {
	switch k {
	case api.ExEq:
		return truth(a == b)
	case api.ExNe:
		return truth(a != b)
	}
	n, ok := ofNumbers(k, a.(int64), b.(int64))
	if !ok {
		panic(wrong{api.EndZero})
	}
	return n
}

func (d doer) made(t api.Type) *object {
	o := &object{map[any]any{}}
	if t.Kind == api.TyArray {
		element := api.Type{Kind: api.TyInt}
		if t.Name != "" {
			element.Kind = api.TyRef
		}
		for i := range t.N {
			o.parts[int64(i)] = zero(element)
		}
	} else {
		r := d.Records[slices.IndexFunc(d.Records, func(r api.Record) bool { return r.Name == t.Name })]
		for _, f := range r.Fields {
			o.parts[f.Name] = zero(f.Type)
		}
	}
	d.meaning.objects = append(d.meaning.objects, o)
	return o
}
