package effect

import "turnstile/api"

// eachStmt hands on the statements of a list and of the lists in it, in the order of places, each with whether it stands in an atomic block of the list.
func eachStmt(list []api.Stmt, visit func(s api.Stmt, inside bool)) {
	var within func(list []api.Stmt, inside bool)
	within = func(list []api.Stmt, inside bool) {
		for _, s := range list {
			visit(s, inside)
			within(s.Body, inside || s.Kind == api.StAtomic)
			within(s.Else, inside)
		}
	}
	within(list, false)
}

// eachExpr hands on the expressions of a statement without its lists: X, Y, their Args, the Args of these, and so on.
func eachExpr(s api.Stmt, visit func(x api.Expr)) {
	var all func(list ...api.Expr)
	all = func(list ...api.Expr) {
		for _, x := range list {
			visit(x)
			all(x.Args...)
		}
	}
	all(s.X, s.Y)
}
