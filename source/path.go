package source

import "turnstile/api"

// locals are those of one call of a function, or of a thread. One of a name is enough: where one may be used, none of its name was begun since.
type locals map[string]value

// path is how far a list of statements was gone through: the lists that are begun and not ended, each within the one ahead of it.
type path struct {
	lists []list
	// result is that of the function whose call the whole path is.
	result value
}

type list struct {
	stmts []api.Stmt
	// next is the place of the statement that comes next.
	next int
	mine locals
	// called: it is a function's, which a return ends.
	called bool
}

func newPath(l list) *path { return &path{lists: []list{l}} }

func (p *path) into(l list) { p.lists = append(p.lists, l) }

// top is the list that is gone through now; nil at the path's end.
func (p *path) top() *list {
	if len(p.lists) == 0 {
		return nil
	}
	return &p.lists[len(p.lists)-1]
}

func (p *path) leave() { p.lists = p.lists[:len(p.lists)-1] }

// next answers the statement that comes next, and the locals that are its own; nil at the path's end.
func (p *path) next() (*api.Stmt, locals) {
	for l := p.top(); l != nil; l = p.top() {
		if l.next < len(l.stmts) {
			l.next++
			return &l.stmts[l.next-1], l.mine
		}
		p.leave()
	}
	return nil, nil
}

// again makes the statement that was begun last the next one once more.
func (p *path) again() { p.top().next-- }

// back ends the function that was called last.
func (p *path) back(result value) {
	for !p.top().called {
		p.leave()
	}
	p.leave()
	// What is answered to a statement within the path is forgotten.
	if len(p.lists) == 0 {
		p.result = result
	}
}
