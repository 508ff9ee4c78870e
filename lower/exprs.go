package lower

import "turnstile/api"

// value is the register that has a value, and its type; nil's own is the zero one.
type value struct {
	at int
	of api.Type
}

// value works out an expression. A local's value is the register of that: nothing changes it ahead of the statement's end.
func (t *thread) value(x *api.Expr, in *call) value {
	t.count()
	if v, ok := in.local(x); ok {
		return v
	}
	switch x.Kind {
	case api.ExNumber:
		return t.fresh(number, api.Ins{Kind: api.InConst, N: x.N})
	case api.ExNil:
		return t.fresh(api.Type{}, api.Ins{Kind: api.InConst})
	case api.ExName, api.ExField, api.ExIndex:
		i, of := t.word(x, t.values(x.Args, in))
		i.Kind = api.InLoad
		return t.fresh(of, i)
	case api.ExNew:
		return t.fresh(x.Type, api.Ins{Kind: api.InNew, N: int64(t.size(x.Type)), C: t.site()})
	case api.ExCall:
		return t.called(x, in)
	case api.ExAnd, api.ExOr:
		return t.decided(x, in)
	}
	return t.worked(x.Kind, t.values(x.Args, in))
}

// values works out expressions from the left.
func (t *thread) values(l []api.Expr, in *call) []value {
	all := make([]value, 0, len(l))
	for i := range l {
		all = append(all, t.value(&l[i], in))
	}
	return all
}

// fresh answers what an instruction leaves in a new register. None is taken again for something else, so that it can be told of each one what it may name.
func (t *thread) fresh(of api.Type, i api.Ins) value {
	i.A = t.register(of)
	t.add(i)
	return value{i.A, of}
}

// word answers the load or the store, but for its kind and its A, that meets a shared variable, a field or an element, whose Args are worked out; and the type of that. What has been added ahead of it is to stand right ahead: so the graph is guarded (chapter 15), for which a shared variable's word is asked too, though it never is nil.
func (t *thread) word(x *api.Expr, args []value) (i api.Ins, of api.Type) {
	i.C = none
	switch x.Kind {
	case api.ExName:
		v := t.variable(x.Name)
		t.add(api.Ins{Kind: api.InShared, A: spot, N: int64(v.at)})
		i.B, of = spot, v.of
	case api.ExField:
		f := t.field(field{args[0].of.Name, x.Name})
		i.B, i.N, of = args[0].at, int64(f.at), f.of
	case api.ExIndex:
		i.B, i.C, of = args[0].at, args[1].at, element(args[0].of)
	}
	t.add(api.Ins{Kind: api.InNil, B: i.B})
	if i.C != none {
		t.add(api.Ins{Kind: api.InIndex, B: i.C, N: int64(args[0].of.N)})
	}
	return i, of
}

// decided comes to the second operand only if the first one does not decide.
func (t *thread) decided(x *api.Expr, in *call) value {
	v := t.fresh(number, t.truth(t.value(&x.Args[0], in)))
	second, next := t.block(), t.block()
	if x.Kind == api.ExAnd {
		t.end(api.LaBranch, v.at, second, next)
	} else {
		t.end(api.LaBranch, v.at, next, second)
	}
	t.at = second
	t.into(v, t.truth(t.value(&x.Args[1], in)))
	t.join([]int{t.at, next})
	return v
}

// truth is 1 of what is not 0, else 0.
func (t *thread) truth(v value) api.Ins {
	return api.Ins{Kind: api.InCalc, Calc: api.CalcNe, B: v.at, C: t.zero()}
}

// zero answers the register of a 0.
func (t *thread) zero() int {
	t.add(api.Ins{Kind: api.InConst, A: nought})
	return nought
}

// into leaves what an instruction answers in a register that there is.
func (t *thread) into(v value, i api.Ins) {
	i.A = v.at
	t.add(i)
}

// worked works out what is made of numbers alone, or holds two references against each other.
func (t *thread) worked(kind api.ExprKind, args []value) value {
	a, b := args[0].at, args[len(args)-1].at
	switch kind {
	case api.ExNeg:
		a = t.zero()
	case api.ExNot:
		b = t.zero()
	case api.ExGt, api.ExGe:
		a, b = b, a
	}
	return t.fresh(number, api.Ins{Kind: api.InCalc, Calc: calc(kind), B: a, C: b})
}

// calc is an operation that does what a kind asks for: -e is 0 - e, !e is e == 0, a > b is b < a.
func calc(kind api.ExprKind) api.Calc {
	switch kind {
	case api.ExAdd:
		return api.CalcAdd
	case api.ExNeg, api.ExSub:
		return api.CalcSub
	case api.ExMul:
		return api.CalcMul
	case api.ExDiv:
		return api.CalcDiv
	case api.ExMod:
		return api.CalcMod
	case api.ExNot, api.ExEq:
		return api.CalcEq
	case api.ExNe:
		return api.CalcNe
	case api.ExLt, api.ExGt:
		return api.CalcLt
	case api.ExLe, api.ExGe:
		return api.CalcLe
	}
	return api.CalcNone
}
