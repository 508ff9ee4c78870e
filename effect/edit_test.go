package effect_test

import (
	"reflect"
	"testing"

	"turnstile/api"
)

// partsOf are the lists of statements and the expressions of a program, wherever they stand.
func partsOf(p *api.Program) (lists []*[]api.Stmt, exprs []*api.Expr) {
	var ofExpr func(x *api.Expr)
	ofExpr = func(x *api.Expr) {
		if x.Kind != api.ExNone {
			exprs = append(exprs, x)
		}
		for i := range x.Args {
			ofExpr(&x.Args[i])
		}
	}
	var ofList func(list *[]api.Stmt)
	ofList = func(list *[]api.Stmt) {
		lists = append(lists, list)
		for i := range *list {
			s := &(*list)[i]
			ofExpr(&s.X)
			ofExpr(&s.Y)
			ofList(&s.Body)
			ofList(&s.Else)
		}
	}
	for i := range p.Funcs {
		ofList(&p.Funcs[i].Body)
	}
	for i := range p.Threads {
		ofList(&p.Threads[i])
	}
	return lists, exprs
}

// someStmts are those of some texts: each sort of statement, with each sort of call.
func someStmts(t *testing.T) []api.Stmt {
	t.Helper()
	p, _ := read(t, `thread { print 1; return; return 1; return nil; atomic { } atomic { return; } s = 1; print s; print num(s); g.x = 1; e[0] = 1; var z r = new r; var z int; var z int = touch(0); while 1 { } if 1 { print 1; } else { return; }
		idle(); num(1); tell(1, nil); touch(1); open(1); make(); put(1); half(1); opens(); idle1(); get(); print get(); tell(num(num(half(3))), nil); open(touch(1)); if idle1() { open(2); } while 0 { atomic { s = 2; } } }`)
	return p.Threads[0]
}

// someExprs are of ints, with each sort of call, and whatever touches.
func someExprs(t *testing.T) (l []api.Expr) {
	t.Helper()
	p, _ := read(t, `thread { print 1; print s; print g.x; print e[1]; print new r == nil; print num(1); print half(2); print touch(3); print get(); print idle1(); print -num(touch(1)); print make() == nil; print l[0].n.x; print 1 + half(s); }`)
	for _, s := range p.Threads[0] {
		l = append(l, s.X)
	}
	return l
}

// TestEachEdit holds the words for a program in which nothing is wrong with each statement laid in each place of each list, each statement left out, each expression made another one.
func TestEachEdit(t *testing.T) {
	p, _ := read(t, wholeText)
	c := tally{}
	c.test(t, p)
	lists, exprs := partsOf(&p)
	for _, list := range lists {
		old := *list
		for i := range len(old) + 1 {
			for _, s := range someStmts(t) {
				*list = append(append(append([]api.Stmt{}, old[:i]...), s), old[i:]...)
				c.test(t, p)
			}
			if i < len(old) {
				*list = append(append([]api.Stmt{}, old[:i]...), old[i+1:]...)
				c.test(t, p)
			}
		}
		*list = old
	}
	for _, x := range exprs {
		old := *x
		for _, next := range someExprs(t) {
			*x = next
			c.test(t, p)
		}
		*x = old
	}
	c.wants(t, 25)
	if q, _ := read(t, wholeText); !reflect.DeepEqual(p, q) {
		t.Error("the edits are not taken back")
	}
}

// TestFunctionsInEachOrder holds the words for the functions of a program from each of them on, with and without a Result.
func TestFunctionsInEachOrder(t *testing.T) {
	p, _ := read(t, wholeText)
	c := tally{}
	for i := range p.Funcs {
		q := p
		q.Funcs = append(append([]api.Func{}, p.Funcs[i:]...), p.Funcs[:i]...)
		c.test(t, q)
		for j := range q.Funcs {
			f := q.Funcs[j]
			q.Funcs[j].Result = api.Type{Kind: api.TyInt}
			c.test(t, q)
			q.Funcs[j] = f
		}
	}
	if c["right"] < len(p.Funcs) || c["result"] == 0 {
		t.Errorf("%v", c)
	}
}
