package effect

import "turnstile/api"

// effects finds what the functions of a program do in which names and types fit. It ends only where no function comes back to itself.
type effects struct {
	shared map[string]struct{}
	bodies map[string][]api.Stmt
	// met is what those functions do that were asked for already: many ways may lead to one function.
	met map[string]api.Effect
}

func newEffects(p api.Program) *effects {
	does := &effects{
		shared: make(map[string]struct{}, len(p.Shared)),
		bodies: make(map[string][]api.Stmt, len(p.Funcs)),
		met:    make(map[string]api.Effect, len(p.Funcs)),
	}
	for _, f := range p.Shared {
		does.shared[f.Name] = struct{}{}
	}
	for _, f := range p.Funcs {
		does.bodies[f.Name] = f.Body
	}
	return does
}

// function answers what the function of that name does.
func (does *effects) function(name string) api.Effect {
	if known, ok := does.met[name]; ok {
		return known
	}
	var all api.Effect
	eachStmt(does.bodies[name], func(s api.Stmt, inside bool) {
		one := does.stmt(s)
		if inside {
			one &^= api.EfTouches
		}
		all |= one
	})
	does.met[name] = all
	return all
}

// stmt answers what a statement does without its lists.
func (does *effects) stmt(s api.Stmt) (all api.Effect) {
	switch s.Kind {
	case api.StAtomic:
		all = api.EfOpens
		fallthrough
	case api.StPrint:
		all |= api.EfTells
	}
	eachExpr(s, func(x api.Expr) { all |= does.expr(x) })
	return all
}

// expr answers what an expression does without its Args. No local has a shared variable's name.
func (does *effects) expr(x api.Expr) api.Effect {
	switch x.Kind {
	case api.ExName:
		if _, ok := does.shared[x.Name]; ok {
			return api.EfTouches
		}
	case api.ExField, api.ExIndex, api.ExNew:
		return api.EfTouches
	case api.ExCall:
		return does.function(x.Name)
	}
	return 0
}
