package effect

import "turnstile/api"

// finder is told of place by place whether what lies there is wrong, and keeps the first one where it is.
type finder struct {
	place int
	first int
	found bool
}

func (f *finder) next(wrong bool) {
	if wrong && !f.found {
		f.first, f.found = f.place, true
	}
	f.place++
}

// firstWrong answers the first place where something stands that may not stand there. No function may come back to itself.
func firstWrong(p api.Program) (place int, found bool) {
	does := newEffects(p)
	f := &finder{place: placeOfFunc(p, 0)}
	for _, g := range p.Funcs {
		all := does.function(g.Name)
		f.next(g.Result.Kind != api.TyNone && all&api.EfTells != 0)
		touching := all&api.EfTouches != 0
		eachStmt(g.Body, func(s api.Stmt, inside bool) {
			opens := does.stmt(s)&api.EfOpens != 0
			f.next(opens && (inside || touching) || inside && s.Kind == api.StReturn)
		})
	}
	for _, list := range p.Threads {
		f.next(false)
		eachStmt(list, func(s api.Stmt, inside bool) {
			// What a thread's statement must not do hangs on whether a block is open already.
			not := api.EfTouches
			if inside {
				not = api.EfOpens
			}
			f.next(does.stmt(s)&not != 0 || s.Kind == api.StReturn)
		})
	}
	return f.first, f.found
}
