package lower

import "turnstile/api"

func (t *thread) list(l []api.Stmt, in *call) {
	for i := range l {
		// What stands behind a return is not come to.
		if t.at == nowhere {
			return
		}
		t.stmt(&l[i], in)
	}
}

func (t *thread) stmt(s *api.Stmt, in *call) {
	t.count()
	switch s.Kind {
	case api.StVar:
		in.locals[s.Name] = t.fresh(s.Type, t.given(&s.X, in))
	case api.StSet:
		t.set(s, in)
	case api.StIf:
		t.choice(s, in)
	case api.StWhile:
		t.loop(s, in)
	case api.StAtomic:
		t.add(api.Ins{Kind: api.InBegin})
		t.list(s.Body, in)
		t.add(api.Ins{Kind: api.InEnd})
	case api.StPrint:
		t.add(api.Ins{Kind: api.InPrint, B: t.value(&s.X, in).at})
	case api.StReturn:
		if in.result.of != (api.Type{}) {
			t.into(in.result, t.given(&s.X, in))
		}
		in.back = append(in.back, t.at)
		t.at = nowhere
	case api.StCall:
		t.called(&s.X, in)
	}
}

// given is what leaves the value of an expression that may be left out: 0 or nil then.
func (t *thread) given(x *api.Expr, in *call) api.Ins {
	if x.Kind == api.ExNone {
		return api.Ins{Kind: api.InConst}
	}
	return api.Ins{Kind: api.InMove, B: t.value(x, in).at}
}

// set asks whether X names a word only behind Y.
func (t *thread) set(s *api.Stmt, in *call) {
	if v, ok := in.local(&s.X); ok {
		t.into(v, t.given(&s.Y, in))
		return
	}
	args := t.values(s.X.Args, in)
	y := t.value(&s.Y, in)
	i, _ := t.word(&s.X, args)
	i.Kind, i.A = api.InStore, y.at
	t.add(i)
}

func (t *thread) choice(s *api.Stmt, in *call) {
	x := t.value(&s.X, in)
	yes, no := t.block(), t.block()
	t.end(api.LaBranch, x.at, yes, no)
	open := t.arm(yes, s.Body, in)
	t.join(append(open, t.arm(no, s.Else, in)...))
}

// arm puts a list at the beginning of a block, and answers the block in which the list comes to its end, if it does.
func (t *thread) arm(begin int, l []api.Stmt, in *call) (open []int) {
	t.at = begin
	t.list(l, in)
	return t.here()
}

func (t *thread) loop(s *api.Stmt, in *call) {
	again := t.loopable()
	x := t.value(&s.X, in)
	body, behind := t.block(), t.block()
	t.end(api.LaBranch, x.at, body, behind)
	t.at = body
	t.list(s.Body, in)
	if t.at != nowhere {
		t.jump(again)
	}
	t.at = behind
}
