package lower

import "turnstile/api"

// mostParts is how many statements and expressions of a thread are gone through, those of a function at each call. Of some no instruction is made, such as calls of what is empty: that alone would not end them.
const mostParts = api.MaxIns

// thread is one whose graph is being made.
type thread struct {
	*world
	graph
	parts int
}

// call is a function where it is called, or the whole thread.
type call struct {
	// locals are those that were begun. One of a name is enough: where one may be used, none of its name was begun since.
	locals map[string]value
	// result is what the function answers, if it has a Result.
	result value
	// back are the blocks in which it returns. What is behind the call is behind these.
	back []int
}

// graphOf is the graph of a thread's list.
func (w *world) graphOf(l []api.Stmt) api.Graph {
	t := &thread{world: w, graph: newGraph()}
	t.list(l, &call{locals: map[string]value{}})
	t.end(api.LaHalt, 0, 0, 0)
	return t.made
}

// count counts a statement or an expression.
func (t *thread) count() {
	must(t.parts < mostParts)
	t.parts++
}

// local is what an expression names, if that is a local. No shared variable has its name, but a field may.
func (c *call) local(x *api.Expr) (value, bool) {
	v, ok := c.locals[x.Name]
	return v, ok && x.Kind == api.ExName
}

// called goes through a function, and answers its result, if it has one. Each call has registers of its own.
func (t *thread) called(x *api.Expr, in *call) value {
	f := t.funcs[x.Name]
	c := &call{locals: make(map[string]value, len(f.Params))}
	args := t.values(x.Args, in)
	for i, p := range f.Params {
		c.locals[p.Name] = t.fresh(p.Type, api.Ins{Kind: api.InMove, B: args[i].at})
	}
	if f.Result != (api.Type{}) {
		c.result = value{t.register(f.Result), f.Result}
	}
	t.list(f.Body, c)
	t.ended(c)
	return c.result
}

// ended goes on behind a call: where its list has come to its end without a return, it answers 0 or nil.
func (t *thread) ended(c *call) {
	if t.at != nowhere && c.result.of != (api.Type{}) {
		t.into(c.result, api.Ins{Kind: api.InConst})
	}
	t.join(append(c.back, t.here()...))
}
