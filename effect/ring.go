package effect

import "turnstile/api"

// calls are the names of the functions that each function calls, wherever the calls stand.
type calls map[string][]string

func callsOf(p api.Program) calls {
	c := make(calls, len(p.Funcs))
	for _, f := range p.Funcs {
		eachStmt(f.Body, func(s api.Stmt, _ bool) {
			eachExpr(s, func(x api.Expr) {
				if x.Kind == api.ExCall {
					c[f.Name] = append(c[f.Name], x.Name)
				}
			})
		})
	}
	return c
}

// leads says whether calls lead from one function to another, by functions that were not met yet.
func (c calls) leads(from, to string, met map[string]struct{}) bool {
	for _, next := range c[from] {
		if next == to {
			return true
		}
		if _, ok := met[next]; ok {
			continue
		}
		met[next] = struct{}{}
		if c.leads(next, to, met) {
			return true
		}
	}
	return false
}

// firstRing answers the number of the first function that comes back to itself.
func firstRing(p api.Program) (i int, found bool) {
	c := callsOf(p)
	for i, f := range p.Funcs {
		if c.leads(f.Name, f.Name, map[string]struct{}{}) {
			return i, true
		}
	}
	return 0, false
}
