package show

import (
	"turnstile/api"
	"turnstile/lex"
)

// fault is what a walk gives up with.
type fault struct{ errno api.Errno }

// caught answers what the walk gives up with; OK, if it comes to its end.
func caught(walk func()) (e api.Errno) {
	defer func() {
		given := recover()
		if given == nil {
			return
		}
		f, ok := given.(fault)
		if !ok {
			// None of ours: hiding it would call a tree right.
			panic(given)
		}
		e = f.errno
	}()
	walk()
	return api.OK
}

func must(right bool) {
	if !right {
		panic(fault{api.ErrArg})
	}
}

// atMost gives up, if there is more of something than there may be.
func atMost(n, most int) {
	if n > most {
		panic(fault{api.ErrLimit})
	}
}

// checker goes through a tree, up to the first thing that is wrong.
type checker struct {
	exprs map[api.ExprKind]exprWants
	stmts map[api.StmtKind]stmtWants
	items int
}

func newChecker() *checker {
	return &checker{exprs: exprKinds(), stmts: stmtKinds()}
}

func (c *checker) program(p api.Program) {
	for i, r := range p.Records {
		atMost(i+1, api.MaxRecords)
		must(lex.Name(r.Name) && len(r.Fields) > 0)
		checkFields(r.Fields, api.MaxFields)
	}
	checkFields(p.Shared, api.MaxItems)
	for i, f := range p.Funcs {
		atMost(i+1, api.MaxFuncs)
		c.function(f)
	}
	for i, list := range p.Threads {
		atMost(i+1, api.MaxThreads)
		c.list(list, 1)
	}
}

func checkFields(fields []api.Field, most int) {
	for i, f := range fields {
		atMost(i+1, most)
		must(lex.Name(f.Name))
		checkType(f.Type)
	}
}

// checkType asks for ErrArg first: an N above MaxArray counts only where the form is right else.
func checkType(t api.Type) {
	switch t.Kind {
	case api.TyInt:
		must(t.Name == "" && t.N == 0)
	case api.TyRef:
		must(lex.Name(t.Name) && t.N == 0)
	case api.TyArray:
		must((t.Name == "" || lex.Name(t.Name)) && t.N > 0)
		atMost(t.N, api.MaxArray)
	default:
		must(false)
	}
}

func (c *checker) function(f api.Func) {
	must(lex.Name(f.Name))
	checkFields(f.Params, api.MaxFields)
	if f.Result != (api.Type{}) {
		checkType(f.Result)
	}
	c.list(f.Body, 1)
}

func (c *checker) list(list []api.Stmt, deep int) {
	for _, s := range list {
		c.stmt(s, deep)
	}
}

// item is asked of each statement and expression, ahead of what else may be wrong with it.
func (c *checker) item(deep int) {
	atMost(deep, api.MaxNest)
	c.items++
	atMost(c.items, api.MaxItems)
}

func (c *checker) stmt(s api.Stmt, deep int) {
	c.item(deep)
	wants := c.stmtForm(s)
	if !none(s.X) || wants.x == xAny {
		c.expr(s.X, 1)
	}
	if wants.y {
		c.expr(s.Y, 1)
	}
	c.list(s.Body, deep+1)
	c.list(s.Else, deep+1)
}

// stmtForm asks for the type's form last, so that ErrArg comes ahead of its ErrLimit.
func (c *checker) stmtForm(s api.Stmt) stmtWants {
	wants, ok := c.stmts[s.Kind]
	must(ok)
	must(rightX(s.X, wants.x))
	must(wants.y || none(s.Y))
	must(wants.body || len(s.Body) == 0)
	must(wants.other || len(s.Else) == 0)
	if wants.variable {
		must(lex.Name(s.Name))
		checkType(s.Type)
	} else {
		must(s.Name == "" && s.Type == api.Type{})
	}
	return wants
}

// rightX leaves to the expression's own form whatever is asked of all expressions.
func rightX(x api.Expr, wants xWants) bool {
	switch wants {
	case xNone:
		return none(x)
	case xPlace:
		return x.Kind == api.ExName || x.Kind == api.ExField || x.Kind == api.ExIndex
	case xCall:
		return x.Kind == api.ExCall
	}
	return true
}

func (c *checker) expr(x api.Expr, deep int) {
	c.item(deep)
	c.exprForm(x)
	for _, a := range x.Args {
		c.expr(a, deep+1)
	}
}

// exprForm asks for the type's form last, so that ErrArg comes ahead of its ErrLimit.
func (c *checker) exprForm(x api.Expr) {
	wants, ok := c.exprs[x.Kind]
	must(ok)
	must(wants.args == anyArgs || len(x.Args) == wants.args)
	must(wants.number || x.N == 0)
	if wants.name {
		must(lex.Name(x.Name))
	} else {
		must(x.Name == "")
	}
	if wants.made {
		must(x.Type.Kind == api.TyRef || x.Type.Kind == api.TyArray)
		checkType(x.Type)
	} else {
		must(x.Type == api.Type{})
	}
}
