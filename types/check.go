package types

import "turnstile/api"

// fault is what the checker gives up with: the first fault of a place.
type fault struct {
	place int
	errno api.Errno
}

// caught answers what the checker gives up with; OK, if it comes to its end.
func caught(check func()) (place int, e api.Errno) {
	defer func() {
		given := recover()
		if given == nil {
			return
		}
		f, ok := given.(fault)
		if !ok {
			// None of ours: it says nothing of the program.
			panic(given)
		}
		place, e = f.place, f.errno
	}()
	check()
	return 0, api.OK
}

// checker goes through the places of a program that may be, up to the first one that has a fault.
type checker struct {
	program api.Program
	records names
	// fields are those of each record.
	fields []names
	shared names
	funcs  names
	// place is the number of the place that is looked at; -1 ahead of the first one.
	place int
	// result is that of the function that is looked at: none of a thread, and of a function without one.
	result api.Type
}

func newChecker(p api.Program) *checker {
	c := &checker{
		program: p,
		records: namesOf(p.Records, func(r api.Record) string { return r.Name }),
		shared:  namesOfFields(p.Shared),
		funcs:   namesOf(p.Funcs, func(f api.Func) string { return f.Name }),
		place:   -1,
	}
	for _, r := range p.Records {
		c.fields = append(c.fields, namesOfFields(r.Fields))
	}
	return c
}

// next goes on to the next place: the things and statements must come in the order of places.
func (c *checker) next() { c.place++ }

func (c *checker) must(right bool, e api.Errno) {
	if !right {
		panic(fault{c.place, e})
	}
}

func (c *checker) check() {
	for i, r := range c.program.Records {
		c.next()
		c.record(i, r)
	}
	for i, f := range c.program.Shared {
		c.next()
		c.must(!c.records.has(f.Name) && c.shared[f.Name] == i, api.ErrTwice)
		c.known(f.Type)
	}
	for i, f := range c.program.Funcs {
		c.next()
		c.function(i, f)
	}
	for _, list := range c.program.Threads {
		c.next()
		c.result = api.Type{}
		c.list(list, nil)
	}
}

func (c *checker) record(i int, r api.Record) {
	c.must(c.records[r.Name] == i, api.ErrTwice)
	for j, f := range r.Fields {
		c.must(c.fields[i][f.Name] == j, api.ErrTwice)
		c.known(f.Type)
	}
}

func (c *checker) function(i int, f api.Func) {
	c.must(!c.records.has(f.Name) && !c.shared.has(f.Name) && c.funcs[f.Name] == i, api.ErrTwice)
	var params *local
	for _, p := range f.Params {
		params = c.declared(p, params)
	}
	c.known(f.Result)
	c.result = f.Result
	c.list(f.Body, params)
}

// declared answers the locals that may be used behind a parameter or an StVar; there are those ahead of it.
func (c *checker) declared(f api.Field, ahead *local) *local {
	c.must(ahead.find(f.Name) == nil && !c.shared.has(f.Name), api.ErrTwice)
	c.known(f.Type)
	return &local{f, ahead}
}

// known asks for the record that a type names, if it names one.
func (c *checker) known(t api.Type) {
	c.must(t.Name == "" || c.records.has(t.Name), api.ErrGone)
}

func (c *checker) list(list []api.Stmt, locals *local) {
	for _, s := range list {
		c.next()
		locals = c.stmt(s, locals)
	}
}

// stmt answers the locals that may be used behind a statement.
func (c *checker) stmt(s api.Stmt, locals *local) *local {
	switch s.Kind {
	case api.StVar:
		return c.variable(s, locals)
	case api.StSet:
		to := c.value(s.X, locals)
		c.fit(c.value(s.Y, locals), to)
	case api.StIf, api.StWhile, api.StPrint:
		c.number(c.value(s.X, locals))
	case api.StReturn:
		c.back(s.X, locals)
	case api.StCall:
		c.expr(s.X, locals)
	}
	c.list(s.Body, locals)
	c.list(s.Else, locals)
	return locals
}

// variable looks at a local's X without that local: it may be used only behind its StVar.
func (c *checker) variable(s api.Stmt, locals *local) *local {
	behind := c.declared(api.Field{Name: s.Name, Type: s.Type}, locals)
	if s.X.Kind != api.ExNone {
		c.fit(c.value(s.X, locals), s.Type)
	}
	return behind
}

func (c *checker) back(x api.Expr, locals *local) {
	if x.Kind == api.ExNone {
		c.must(c.result.Kind == api.TyNone, api.ErrType)
		return
	}
	c.fit(c.value(x, locals), c.result)
}
