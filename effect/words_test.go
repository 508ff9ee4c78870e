package effect_test

import (
	"turnstile/api"
	"turnstile/types"
)

// words are the chapter's, written out for one program in which names and types fit: for each function whether it touches, opens, tells, and which functions its calls come to. They begin with none, and grow until a program's statements add nothing more.
type words struct {
	api.Program
	touches, opens, tells map[string]int
	comes                 map[[2]string]int
}

func wordsOf(p api.Program) *words {
	w := &words{p, map[string]int{}, map[string]int{}, map[string]int{}, map[[2]string]int{}}
	for size := -1; size != w.size(); {
		size = w.size()
		for _, f := range p.Funcs {
			w.grow(f.Name, f.Body, "")
			for _, g := range p.Funcs {
				for _, h := range p.Funcs {
					if w.comes[[2]string{f.Name, g.Name}]+w.comes[[2]string{g.Name, h.Name}] == 2 {
						w.comes[[2]string{f.Name, h.Name}] = 1
					}
				}
			}
		}
	}
	return w
}

func (w *words) size() int { return len(w.touches) + len(w.opens) + len(w.tells) + len(w.comes) }

func (w *words) grow(f string, list []api.Stmt, block string) {
	for _, s := range list {
		if s.Kind == api.StAtomic {
			w.opens[f] = 1
		}
		if s.Kind == api.StAtomic || s.Kind == api.StPrint {
			w.tells[f] = 1
		}
		if block != "atomic" && (w.touch(s.X) || w.touch(s.Y)) {
			w.touches[f] = 1
		}
		for _, g := range append(called(s.X), called(s.Y)...) {
			w.comes[[2]string{f, g}] = 1
			if w.opens[g] == 1 {
				w.opens[f] = 1
			}
			if w.tells[g] == 1 {
				w.tells[f] = 1
			}
		}
		if s.Kind == api.StAtomic {
			w.grow(f, s.Body, "atomic")
		} else {
			w.grow(f, s.Body, block)
			w.grow(f, s.Else, block)
		}
	}
}

// called are the functions that are called in an expression.
func called(x api.Expr) (l []string) {
	for _, a := range x.Args {
		l = append(l, called(a)...)
	}
	if x.Kind == api.ExCall {
		l = append(l, x.Name)
	}
	return l
}

func (w *words) touch(x api.Expr) bool {
	for _, a := range x.Args {
		if w.touch(a) {
			return true
		}
	}
	for _, v := range w.Shared {
		if x.Kind == api.ExName && x.Name == v.Name {
			return true
		}
	}
	return x.Kind == api.ExField || x.Kind == api.ExIndex || x.Kind == api.ExNew || x.Kind == api.ExCall && w.touches[x.Name] == 1
}

// of is what Of answers where Check finds nothing.
func (w *words) of() (l []api.Effect) {
	for _, f := range w.Funcs {
		l = append(l, api.Effect(w.touches[f.Name]*1+w.opens[f.Name]*2+w.tells[f.Name]*4))
	}
	return l
}

// check is what Check answers, and which row of the chapter's list it is.
func (w *words) check() (place int, e api.Errno, row string) {
	if _, e := types.Check(w.Program); e != api.OK {
		return 0, api.ErrArg, "refused"
	}
	rows := w.rows()
	n := len(w.Records) + len(w.Shared)
	for _, f := range w.Funcs {
		if w.comes[[2]string{f.Name, f.Name}] == 1 {
			return n, api.ErrRing, "ring"
		}
		n += types.Places(api.Program{Funcs: []api.Func{f}})
	}
	for n, row := range rows {
		if row != "" {
			return n, api.ErrEffect, row
		}
	}
	return 0, api.OK, "right"
}

// rows are for each place the row of the chapter's list that it stands in; empty, if in none.
func (w *words) rows() []string {
	l := make([]string, len(w.Records)+len(w.Shared))
	for _, f := range w.Funcs {
		row := ""
		if f.Result.Kind != api.TyNone && w.tells[f.Name] == 1 {
			row = "result"
		}
		l = append(l, row)
		l = append(l, w.rowsOf(f.Body, false, false, w.touches[f.Name] == 1)...)
	}
	for _, list := range w.Threads {
		l = append(l, "")
		l = append(l, w.rowsOf(list, true, false, false)...)
	}
	return l
}

func (w *words) rowsOf(list []api.Stmt, thread, block, touching bool) (l []string) {
	for _, s := range list {
		opens := s.Kind == api.StAtomic
		for _, g := range append(called(s.X), called(s.Y)...) {
			opens = opens || w.opens[g] == 1
		}
		row := ""
		if s.Kind == api.StReturn && thread {
			row = "return in a thread"
		} else if s.Kind == api.StReturn && block {
			row = "return in a block"
		} else if thread && !block && (w.touch(s.X) || w.touch(s.Y)) {
			row = "touches in a thread"
		} else if opens && block {
			row = "opens in a block"
		} else if opens && touching {
			row = "opens in what touches"
		}
		l = append(l, row)
		l = append(l, w.rowsOf(s.Body, thread, block || s.Kind == api.StAtomic, touching)...)
		l = append(l, w.rowsOf(s.Else, thread, block, touching)...)
	}
	return l
}
