package parse

import "turnstile/api"

func (r *reader) list() (l []api.Stmt) {
	r.between("{", "}", func() {
		for !r.is("}") {
			l = append(l, r.stmt())
		}
	})
	return l
}

func (r *reader) stmt() api.Stmt {
	r.place()
	switch {
	case r.has("if"):
		return r.branch()
	case r.has("while"):
		x := r.expr()
		return api.Stmt{Kind: api.StWhile, X: x, Body: r.list()}
	case r.has("atomic"):
		return api.Stmt{Kind: api.StAtomic, Body: r.list()}
	}
	s := r.plain()
	r.expect(";")
	return s
}

func (r *reader) branch() api.Stmt {
	s := api.Stmt{Kind: api.StIf, X: r.expr()}
	s.Body = r.list()
	if r.has("else") {
		s.Else = r.list()
	}
	return s
}

// plain reads a statement without a list, but for its semicolon.
func (r *reader) plain() api.Stmt {
	switch {
	case r.has("var"):
		return r.variable()
	case r.has("print"):
		return api.Stmt{Kind: api.StPrint, X: r.expr()}
	case r.has("return"):
		s := api.Stmt{Kind: api.StReturn}
		if !r.is(";") {
			s.X = r.expr()
		}
		return s
	}
	return r.setOrCall()
}

func (r *reader) variable() api.Stmt {
	f := r.field()
	s := api.Stmt{Kind: api.StVar, Name: f.Name, Type: f.Type}
	if r.has("=") {
		s.X = r.expr()
	}
	return s
}

// setOrCall asks only behind the expression with which the statement begins whether it is one that may stand there.
func (r *reader) setOrCall() api.Stmt {
	x := r.expr()
	switch x.Kind {
	case api.ExName, api.ExField, api.ExIndex:
		r.expect("=")
		return api.Stmt{Kind: api.StSet, X: x, Y: r.expr()}
	case api.ExCall:
		return api.Stmt{Kind: api.StCall, X: x}
	}
	panic(r.wrong())
}
