package source

import "turnstile/api"

// walk goes on along a path, and answers whether it has come to its end: outside of blocks it goes up to and with the next visible thing, within a block, where nothing is one, always to the end.
func (t *thread) walk(p *path, inside bool) (ended bool) {
along:
	for {
		s, mine := p.next()
		if s == nil {
			return true
		}
		t.step()
		switch s.Kind {
		case api.StVar:
			mine[s.Name] = t.given(&s.X, mine)
		case api.StSet:
			t.set(s, mine)
		case api.StIf:
			chosen := s.Else
			if t.holds(&s.X, mine) {
				chosen = s.Body
			}
			p.into(list{stmts: chosen, mine: mine})
		case api.StWhile:
			if t.holds(&s.X, mine) {
				p.again()
				p.into(list{stmts: s.Body, mine: mine})
			}
		case api.StAtomic:
			t.block(s.Body, mine)
			break along
		case api.StPrint:
			n := t.value(&s.X, mine).n
			if inside {
				t.waiting = append(t.waiting, n)
				continue along
			}
			t.told = append(t.told, n)
			break along
		case api.StReturn:
			p.back(t.given(&s.X, mine))
		case api.StCall:
			p.into(t.called(s.X.Name, t.values(s.X.Args, mine)))
		}
	}
	return false
}

// set asks whether X names a word only behind Y.
func (t *thread) set(s *api.Stmt, mine locals) {
	x := &s.X
	args := t.values(x.Args, mine)
	y := t.value(&s.Y, mine)
	if mine.names(x) {
		mine[x.Name] = y
		return
	}
	w := t.word(x, args)
	t.changes = append(t.changes, change{w, *w})
	*w = y
}

// called answers the list of a function that is called, with its parameters.
func (t *thread) called(name string, args []value) list {
	f := t.funcs[name]
	mine := make(locals, len(args))
	for i, v := range args {
		mine[f.Params[i].Name] = v
	}
	return list{stmts: f.Body, mine: mine, called: true}
}
